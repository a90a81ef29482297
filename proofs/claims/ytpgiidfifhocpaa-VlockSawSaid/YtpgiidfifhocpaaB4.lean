/- The law VlockSaw: the walk where the list is long. -/
import Derived.Test.YtpgiidfifhocpaaB3
namespace Go.Proofs.Ytpgiidfifhocpaa
set_option linter.unusedSimpArgs false
open Go.RowKit
set_option linter.unusedVariables false
attribute [local go_sem] iss

set_option maxRecDepth 100000 in
set_option maxHeartbeats 8000000 in
theorem saw_B (b off len cap : Nat) (a1 : Int) (w : World) (hl : len ≤ cap) (hm : cap ≤ maxLen) (u1 : 0 ≤ a1) (u2 : a1 ≤ 255) (hL : 100 < len) (K : Nat) (hK : a1 % 101 = (K : Int)) (hKL : K ≤ 100)
    (hD : ∀ i, i < 100 → ∃ kd who : Int, w.cell? ⟨b, off + i * 2, none⟩ = some (.int .i64 kd) ∧ w.cell? ⟨b, off + i * 2 + 1, none⟩ = some (.int .i64 who)) :
    Calls Try.prog 7 #[.slice (some ⟨b, off, none⟩) len cap, .int .u8 a1] w fun e w' => e = .returned (.bool true) ∧ Below w.heap.size w w' := by
  unfold maxLen at hm
  have HD := Lib.hid hD
  clear hD
  have HK := Lib.hid hK
  clear hK
  have j1 : (100 : Int) < (len : Int) := by omega
  go_enter Try.func7, Try.ntmps7
  go_wp2
  rw [HK.out]
  go_loopw [7] (fun i wr => ∃ (k : Nat) (v o : Int) (g : Bool), k ≤ K ∧ i = .int .i64 k ∧ rightB v o g = true ∧ Box wr w.heap.size (ix v) (ix o) (.bool g) ∧ Below w.heap.size w wr) (fun i _ => K - (intOf i).toNat)
  case atStart => exact ⟨0, 0, 0, false, by omega, rfl, by decide, Box.new _ _ _ _, (Below.refl _ _).alloc (Nat.le_refl _) _⟩
  case round =>
    obtain ⟨k, v, o, g, hk1, rfl, hR, Bx, hB⟩ := hrel
    have HR := Lib.hid hR
    clear hR
    by_cases h1 : k < K
    · obtain ⟨kd, who, d0, d1⟩ := HD.out k (by omega)
      have e0 := cell_later hB d0
      have e1 := cell_later hB d1
      have q1 : (k : Int) < (K : Int) := by omega
      have q3 : (k : Int) < 100 := by omega
      have hv : -9223372036854775808 ≤ v := by have := (right_facts v o g HR.out).1; omega
      have C := fun w => step_any v o g kd who w hv
      clear hv
      obtain ⟨r0, r1, r2, rd, e, hr⟩ := step_right v o g kd who HR.out
      rw [e] at C
      have C' := Lib.hid C
      have Hr := Lib.hid hr
      clear C e hr
      obtain ⟨x0, x1, x2, x3, x4, x5⟩ := (⟨Bx.c0, Bx.c1, Bx.c2, Bx.f0, Bx.f1, Bx.f2⟩ : _ ∧ _ ∧ _ ∧ _ ∧ _ ∧ _)
      go_wp2_with fail
      refine wp_region_held_drew (S := (fun W => Below w.heap.size w W ∧ W.cell? ⟨b, off + k * 2, none⟩ = some (.int .i64 kd) ∧ W.cell? ⟨b, off + k * 2 + 1, none⟩ = some (.int .i64 who))) (by kernel_rfl) ?_ (fun hHeld => ?_)
      · first | exact s0 d0 d1 hB.drew | exact s0 d0 d1 hB1 | exact s0 d0 d1 (below_store hB1 (Nat.le_refl _)) | fail
      refine wpAnyH_take (i := 1) (oi := { dst := some 33, op := Op.move (Operand.tmp 0), type := 39, pos := "law.go:113", after := #[], guard := none }) (v := ?_) rfl (by kernel_rfl) (by kernel_rfl) (by kernel_rfl) (fun _ _ _ h => h) (Or.inl ⟨by rfl, ?_⟩) (by assumption) ?_
      rotate_left
      · intro w hSw; (try dsimp only at hSw); go_simp; try with_reducible rfl
      try simp only [Act.put, List.setIfInBounds_toArray, List.set_cons_zero, List.set_cons_succ]
      refine wpAnyH_take (i := 2) (oi := { dst := some 34, op := Op.move (Operand.tmp 7), type := 3, pos := "law.go:113", after := #[], guard := none }) (v := ?_) rfl (by kernel_rfl) (by kernel_rfl) (by kernel_rfl) (fun _ _ _ h => h) (Or.inl ⟨by rfl, ?_⟩) (by assumption) ?_
      rotate_left
      · intro w hSw; (try dsimp only at hSw); go_simp; try with_reducible rfl
      try simp only [Act.put, List.setIfInBounds_toArray, List.set_cons_zero, List.set_cons_succ]
      refine wpAnyH_take (i := 3) (oi := { dst := some 35, op := Op.indexAddr 39 (Operand.tmp 33) (Operand.tmp 34), type := 0, pos := "law.go:113", after := #[{ on := 1, ground := Ground.data }, { on := 2, ground := Ground.data }], guard := none }) (v := ?_) rfl (by kernel_rfl) (by kernel_rfl) (by kernel_rfl) (fun _ _ _ h => h) (Or.inl ⟨by rfl, ?_⟩) (by assumption) ?_
      rotate_left
      · intro w hSw; (try dsimp only at hSw); go_simp; try with_reducible rfl
      try simp only [Act.put, List.setIfInBounds_toArray, List.set_cons_zero, List.set_cons_succ]
      refine wpAnyH_take (i := 4) (oi := { dst := some 36, op := Op.load 43 (Operand.tmp 35), type := 43, pos := "law.go:113", after := #[{ on := 3, ground := Ground.data }], guard := none }) (v := ?_) rfl (by kernel_rfl) (by kernel_rfl) (by kernel_rfl) (fun _ _ _ h => h) (Or.inl ⟨by rfl, ?_⟩) (by assumption) ?_
      rotate_left
      · intro w hSw; (try dsimp only at hSw); go_simp; try with_reducible rfl
      try simp only [Act.put, List.setIfInBounds_toArray, List.set_cons_zero, List.set_cons_succ]
      refine wpAnyH_ready (rs := [0]) (by kernel_rfl) (by simp) ?_
      refine AllReadyH.cons (o := { dst := some 32, op := Op.load 23 (Operand.tmp 5), type := 23, pos := "law.go:113", after := #[], guard := none }) rfl (fun KK hKK => ?_) AllReadyH.nil
      go_simp
      try go_wp2_with fail
      refine hKK.out _ _ ?_ (fun hHeld => ?_)
      · first | exact s0 d0 d1 hB.drew | exact s0 d0 d1 hB1 | exact s0 d0 d1 (below_store hB1 (Nat.le_refl _)) | fail
      clear hKK KK
      try simp only [Act.put, List.setIfInBounds_toArray, List.set_cons_zero, List.set_cons_succ]
      refine wpAnyH_ready (rs := [5]) (by kernel_rfl) (by simp) ?_
      refine AllReadyH.cons (o := { dst := some 37, op := Op.call { callee := Callee.value (Operand.func 29), args := #[Operand.tmp 32, Operand.tmp 36], argTypes := #[23, 43] }, type := 40, pos := "law.go:113", after := #[{ on := 0, ground := Ground.data }, { on := 4, ground := Ground.data }], guard := none }) rfl (fun KK hKK => ?_) AllReadyH.nil
      go_simp
      refine (C'.out _).mono ?_; rintro e w' ⟨rfl, hb⟩; have hB1 := hB.drew.trans (hb.mono hB.drew.size); have BX := Bx.drew.keep hb; obtain ⟨z0, z1, z2, z3, z4, z5⟩ := (⟨BX.c0, BX.c1, BX.c2, BX.f0, BX.f1, BX.f2⟩ : _ ∧ _ ∧ _ ∧ _ ∧ _ ∧ _)
      try go_wp2_with fail
      refine hKK.out _ _ ?_ (fun hHeld => ?_)
      · first | exact s0 d0 d1 hB.drew | exact s0 d0 d1 hB1 | exact s0 d0 d1 (below_store hB1 (Nat.le_refl _)) | fail
      clear hKK KK
      try simp only [Act.put, List.setIfInBounds_toArray, List.set_cons_zero, List.set_cons_succ]
      refine wpAnyH_take (i := 6) (oi := { dst := some 31, op := Op.move (Operand.tmp 37), type := 40, pos := "law.go:113", after := #[{ on := 5, ground := Ground.data }], guard := none }) (v := ?_) rfl (by kernel_rfl) (by kernel_rfl) (by kernel_rfl) (fun _ _ _ h => h) (Or.inl ⟨by rfl, ?_⟩) (by assumption) ?_
      rotate_left
      · intro w hSw; (try dsimp only at hSw); go_simp; try with_reducible rfl
      try simp only [Act.put, List.setIfInBounds_toArray, List.set_cons_zero, List.set_cons_succ]
      refine wpAnyH_take (i := 7) (oi := { dst := some 38, op := Op.extract (Operand.tmp 31) 0, type := 23, pos := "law.go:113", after := #[{ on := 6, ground := Ground.data }], guard := none }) (v := ?_) rfl (by kernel_rfl) (by kernel_rfl) (by kernel_rfl) (fun _ _ _ h => h) (Or.inl ⟨by rfl, ?_⟩) (by assumption) ?_
      rotate_left
      · intro w hSw; (try dsimp only at hSw); go_simp; try with_reducible rfl
      try simp only [Act.put, List.setIfInBounds_toArray, List.set_cons_zero, List.set_cons_succ]
      refine wpAnyH_take (i := 8) (oi := { dst := some 39, op := Op.extract (Operand.tmp 31) 1, type := 4, pos := "law.go:113", after := #[{ on := 6, ground := Ground.data }, { on := 9, ground := Ground.gcOnly Departure.lateStores }], guard := none }) (v := ?_) rfl (by kernel_rfl) (by kernel_rfl) (by kernel_rfl) (fun _ _ _ h => h) (Or.inl ⟨by rfl, ?_⟩) (by assumption) ?_
      rotate_left
      · intro w hSw; (try dsimp only at hSw); go_simp; try with_reducible rfl
      try simp only [Act.put, List.setIfInBounds_toArray, List.set_cons_zero, List.set_cons_succ]
      refine wpAnyH_ready (rs := [9]) (by kernel_rfl) (by simp) ?_
      refine AllReadyH.cons (o := { dst := none, op := Op.store 23 (Operand.tmp 5) (Operand.tmp 38), type := 0, pos := "law.go:113", after := #[{ on := 7, ground := Ground.data }, { on := 5, ground := Ground.chain }, { on := 0, ground := Ground.phase }, { on := 1, ground := Ground.phase }, { on := 2, ground := Ground.phase }, { on := 3, ground := Ground.phase }, { on := 4, ground := Ground.phase }, { on := 5, ground := Ground.phase }, { on := 6, ground := Ground.phase }, { on := 7, ground := Ground.phase }, { on := 8, ground := Ground.textOnly Departure.lateStores }], guard := none }) rfl (fun KK hKK => ?_) AllReadyH.nil
      go_simp
      try go_wp2_with fail
      refine hKK.out _ _ ?_ (fun hHeld => ?_)
      · first | exact s0 d0 d1 hB.drew | exact s0 d0 d1 hB1 | exact s0 d0 d1 (below_store hB1 (Nat.le_refl _)) | fail
      clear hKK KK
      try simp only [Act.put, List.setIfInBounds_toArray, List.set_cons_zero, List.set_cons_succ]
      refine wpAnyH_done (by kernel_rfl) ?_ _
      go_wp2_with fail
      go_roundw
      case rel => exact ⟨k + 1, r0, r1, r2, by omega, by go_num, Hr.out, BX.store, below_store hB1 (Nat.le_refl _)⟩
      case measure => simp [intOf]; omega
    · have hk : k = K := by omega
      have q1 : decide ((k : Int) < (K : Int)) = false := by simp; omega
      have q2 : decide (k < K) = false := by simp; omega
      clear hk
      obtain ⟨x0, x1, x2, x3, x4, x5⟩ := (⟨Bx.c0, Bx.c1, Bx.c2, Bx.f0, Bx.f1, Bx.f2⟩ : _ ∧ _ ∧ _ ∧ _ ∧ _ ∧ _)
      by_cases hgo : g = true ∨ o ≠ 0
      · have hE : (beginE v o g != 0) = true := by unfold beginE; rcases hgo with h | h <;> cases g <;> simp_all
        have hF : (g || o != 0) = true := by rcases hgo with h | h <;> cases g <;> simp_all
        go_wp2_with fail
        refine (begin_any _ _ _ _).mono ?_
        rintro e w1 ⟨rfl, hb⟩
        have BX := Bx.keep hb
        have hB1 := hB.trans (hb.mono hB.size)
        clear hb x0 x1 x2 x3 x4 x5 Bx hB
        go_wp2_with fail
        refine (live_any _).mono ?_
        rintro e w2 ⟨rfl, hb⟩
        have BX2 := BX.keep hb
        have hB2 := hB1.trans (hb.mono hB1.size)
        clear hb BX hB1
        obtain ⟨x0, x1, x2, x3, x4, x5⟩ := (⟨BX2.c0, BX2.c1, BX2.c2, BX2.f0, BX2.f1, BX2.f2⟩ : _ ∧ _ ∧ _ ∧ _ ∧ _ ∧ _)
        cases g
        · have hF2 : (o != 0) = true := by simpa using hF
          clear hF hgo
          go_wp2_with fail
          go_ret
          exact ⟨by simp, hB2⟩
        · clear hF hgo
          go_wp2_with fail
          go_ret
          exact ⟨by simp, hB2⟩
      · have ho : o = 0 := by by_cases z : o = 0; exact z; exact absurd (Or.inr z) hgo
        have hg : g = false := by cases g; rfl; exact absurd (Or.inl rfl) hgo
        subst ho hg
        clear hgo
        have hE : beginE v 0 false = 0 := by simp [beginE]
        have hN : beginN v 0 false = v := by simp [beginN]
        go_wp2_with fail
        refine (begin_any _ _ _ _).mono ?_
        rintro e w1 ⟨rfl, hb⟩
        rw [hE, hN]
        have BX := Bx.keep hb
        have hB1 := hB.trans (hb.mono hB.size)
        clear hb x0 x1 x2 x3 x4 x5 Bx hB hE hN q1 q2 h1 hk1
        go_wp2_with fail
        obtain ⟨V, hV⟩ : ∃ V, v = V := ⟨_, rfl⟩
        subst hV
        go_loopw [10, 11] (fun ch i wr => ∃ (k : Nat) (v' o : Int) (g : Bool), K ≤ k ∧ k ≤ 100 ∧ i = .int .i64 k ∧ ch = .bool (decide (v < v')) ∧ v ≤ v' ∧ rightB v' o g = true ∧ (v' = v → g = false) ∧ Box wr w.heap.size (ix v') (ix o) (.bool g) ∧ Below w.heap.size w wr) (fun _ i _ => 100 - (intOf i).toNat)
        case atStart => exact ⟨K, v, 0, false, by omega, by omega, rfl, by simp, by omega, HR.out, fun _ => rfl, BX, hB1⟩
        case round =>
          clear BX hB1 HR
          rename Int => V
          obtain ⟨k, v, o, g, hk1, hk2, rfl, rfl, hle, hR, hgv, Bx, hB⟩ := hrel
          have HR := Lib.hid hR
          have HG := Lib.hid hgv
          clear hR hgv
          by_cases h1 : k < 100
          · obtain ⟨kd, who, d0, d1⟩ := HD.out k (by omega)
            have e0 := cell_later hB d0
            have e1 := cell_later hB d1
            clear d0 d1
            have q1 : (k : Int) < 100 := by omega
            have hv : -9223372036854775808 ≤ v := by have := (right_facts v o g HR.out).1; omega
            have C := fun w => step_any v o g kd who w hv
            clear hv
            by_cases c : V < v
            · rcases step_version v o g kd who HR.out with e | ⟨r0, r1, r2, e, hr, hc⟩
              · rw [e] at C
                clear e
                have C' := Lib.hid C
                clear C
                obtain ⟨x0, x1, x2, x3, x4, x5⟩ := (⟨Bx.c0, Bx.c1, Bx.c2, Bx.f0, Bx.f1, Bx.f2⟩ : _ ∧ _ ∧ _ ∧ _ ∧ _ ∧ _)
                go_wp2_with fail
                go_region_held3 (fun W => Below wr.heap.size wr W ∧ W.cell? ⟨w.heap.size, 0, none⟩ = some (ix v) ∧ W.cell? ⟨w.heap.size, 1, none⟩ = some (ix o) ∧ W.cell? ⟨w.heap.size, 2, none⟩ = some (.bool g) ∧ W.cell? ⟨b, off + k * 2, none⟩ = some (.int .i64 kd) ∧ W.cell? ⟨b, off + k * 2 + 1, none⟩ = some (.int .i64 who))
                  (first | exact s1 Bx e0 e1 (Below.refl _ _).drew | exact s1 Bx e0 e1 (stepB' (by assumption) (by assumption) (Nat.le_refl _)) | exact s1 Bx e0 e1 (stepA (by assumption) (Nat.le_refl _)) | exact s1 Bx e0 e1 (stepS (by assumption) (Nat.le_refl _)) | exact s1 Bx e0 e1 (stepC (by assumption)) | fail)
                  (first | (go_at_call 29; (with_reducible refine (C'.out ((wr.alloc (.cells #[.int .i64 0, .int .i64 0, .bool false] 23)).drew)).mono ?_); rintro e w' ⟨rfl, hb⟩; obtain ⟨n0, n1, n2, n3, n4, n5⟩ := keep3 hb wr.heap.size (.int .i64 0) (.int .i64 0) (.bool false) (by simp [go_sem]) (by simp [go_sem]) (by simp [go_sem]) (by simp [go_sem]) (by simp [go_sem]) (by simp [go_sem])) | (go_at_call 29; refine (C'.out _).mono ?_; rintro e w' ⟨rfl, hb⟩))
                · refine at_exit (fun W2 hW => ?_)
                  have hH : Below wr.heap.size wr W2 := by rw [hW]; exact andL (by assumption)
                  have BN : Box W2 w'.heap.size (ix v) (ix o) (.bool g) := by rw [hW]; exact Box.new _ _ _ _
                  have hne : w.heap.size ≠ w'.heap.size := by have h1 := Bx.lt; have h2 := hb.size; simp at h2; omega
                  generalize w'.heap.size = N at *
                  have BX := Bx.keep hH
                  have hB2 := hB.trans (hH.mono hB.size)
                  have E0 := cell_later hH e0
                  have E1 := cell_later hH e1
                  clear hW hH hb Bx hB e0 e1 x0 x1 x2 x3 x4 x5
                  try clear n0 n1 n2 n3 n4 n5
                  obtain ⟨x0, x1, x2, x3, x4, x5⟩ := (⟨BX.c0, BX.c1, BX.c2, BX.f0, BX.f1, BX.f2⟩ : _ ∧ _ ∧ _ ∧ _ ∧ _ ∧ _)
                  obtain ⟨y0, y1, y2, y3, y4, y5⟩ := (⟨BN.c0, BN.c1, BN.c2, BN.f0, BN.f1, BN.f2⟩ : _ ∧ _ ∧ _ ∧ _ ∧ _ ∧ _)
                  go_wp2_with fail
                  refine at_world (fun W3 hW => ?_)
                  have BX3 : Box W3 w.heap.size (ix v) (ix o) (.bool g) := by rw [hW]; exact BX.store
                  have hB3 : Below w.heap.size w W3 := by rw [hW]; exact below_store hB2 (Nat.le_refl _)
                  clear hW BX hB2 x0 x1 x2 x3 x4 x5 y0 y1 y2 y3 y4 y5 BN E0 E1
                  have hval : (validN v o g V == 0) = false := by unfold validN; cases g <;> simp <;> omega
                  refine (valid_any _ _ _ _ _).mono ?_
                  rintro e w4 ⟨rfl, hb⟩
                  have BX4 := BX3.keep hb
                  obtain ⟨t0, t1, t2, _, _, _⟩ := (⟨BX4.c0, BX4.c1, BX4.c2, BX4.f0, BX4.f1, BX4.f2⟩ : _ ∧ _ ∧ _ ∧ _ ∧ _ ∧ _)
                  have hB4 := hB3.trans (hb.mono hB3.size)
                  clear hb BX3 hB3
                  go_wp2_with fail
                  go_roundw
                  case rel => exact ⟨k + 1, v, o, g, by omega, by omega, by go_num, (by first | (simp; done) | (simp; omega)), by omega, HR.out, (fun h => absurd h (by omega)), BX4, hB4⟩
                  case measure => simp [intOf]; omega
                · refine at_exit (fun W2 hW => ?_)
                  have hH : Below wr.heap.size wr W2 := by rw [hW]; exact andL (by assumption)
                  have BN : Box W2 wr.heap.size (ix v) (ix o) (.bool g) := by rw [hW]; exact Box.store (⟨n0, n1, n2, n3, n4, n5⟩ : Box w' wr.heap.size _ _ _)
                  have hne : w.heap.size ≠ wr.heap.size := by have h1 := Bx.lt; omega
                  generalize hN : wr.heap.size = N at *
                  rw [← hN] at hH
                  clear hN
                  have BX := Bx.keep hH
                  have hB2 := hB.trans (hH.mono hB.size)
                  have E0 := cell_later hH e0
                  have E1 := cell_later hH e1
                  clear hW hH hb Bx hB e0 e1 x0 x1 x2 x3 x4 x5
                  try clear n0 n1 n2 n3 n4 n5
                  obtain ⟨x0, x1, x2, x3, x4, x5⟩ := (⟨BX.c0, BX.c1, BX.c2, BX.f0, BX.f1, BX.f2⟩ : _ ∧ _ ∧ _ ∧ _ ∧ _ ∧ _)
                  obtain ⟨y0, y1, y2, y3, y4, y5⟩ := (⟨BN.c0, BN.c1, BN.c2, BN.f0, BN.f1, BN.f2⟩ : _ ∧ _ ∧ _ ∧ _ ∧ _ ∧ _)
                  go_wp2_with fail
                  refine at_world (fun W3 hW => ?_)
                  have BX3 : Box W3 w.heap.size (ix v) (ix o) (.bool g) := by rw [hW]; exact BX.store
                  have hB3 : Below w.heap.size w W3 := by rw [hW]; exact below_store hB2 (Nat.le_refl _)
                  clear hW BX hB2 x0 x1 x2 x3 x4 x5 y0 y1 y2 y3 y4 y5 BN E0 E1
                  have hval : (validN v o g V == 0) = false := by unfold validN; cases g <;> simp <;> omega
                  refine (valid_any _ _ _ _ _).mono ?_
                  rintro e w4 ⟨rfl, hb⟩
                  have BX4 := BX3.keep hb
                  obtain ⟨t0, t1, t2, _, _, _⟩ := (⟨BX4.c0, BX4.c1, BX4.c2, BX4.f0, BX4.f1, BX4.f2⟩ : _ ∧ _ ∧ _ ∧ _ ∧ _ ∧ _)
                  have hB4 := hB3.trans (hb.mono hB3.size)
                  clear hb BX3 hB3
                  go_wp2_with fail
                  go_roundw
                  case rel => exact ⟨k + 1, v, o, g, by omega, by omega, by go_num, (by first | (simp; done) | (simp; omega)), by omega, HR.out, (fun h => absurd h (by omega)), BX4, hB4⟩
                  case measure => simp [intOf]; omega
              · rw [e] at C
                clear e
                have Hr := Lib.hid hr
                clear hr
                rcases hc with ⟨c1, c2, c3⟩ | ⟨c1, c2⟩
                · subst c2 c3
                  have C' := Lib.hid C
                  clear C
                  obtain ⟨x0, x1, x2, x3, x4, x5⟩ := (⟨Bx.c0, Bx.c1, Bx.c2, Bx.f0, Bx.f1, Bx.f2⟩ : _ ∧ _ ∧ _ ∧ _ ∧ _ ∧ _)
                  go_wp2_with fail
                  go_region_held3 (fun W => Below wr.heap.size wr W ∧ W.cell? ⟨w.heap.size, 0, none⟩ = some (ix r0) ∧ W.cell? ⟨w.heap.size, 1, none⟩ = some (ix o) ∧ W.cell? ⟨w.heap.size, 2, none⟩ = some (.bool r2) ∧ W.cell? ⟨b, off + k * 2, none⟩ = some (.int .i64 kd) ∧ W.cell? ⟨b, off + k * 2 + 1, none⟩ = some (.int .i64 who))
                    (first | exact s1 Bx e0 e1 (Below.refl _ _).drew | exact s1 Bx e0 e1 (stepB' (by assumption) (by assumption) (Nat.le_refl _)) | exact s1 Bx e0 e1 (stepA (by assumption) (Nat.le_refl _)) | exact s1 Bx e0 e1 (stepS (by assumption) (Nat.le_refl _)) | exact s1 Bx e0 e1 (stepC (by assumption)) | fail)
                    (first | (go_at_call 29; (with_reducible refine (C'.out ((wr.alloc (.cells #[.int .i64 0, .int .i64 0, .bool false] 23)).drew)).mono ?_); rintro e w' ⟨rfl, hb⟩; obtain ⟨n0, n1, n2, n3, n4, n5⟩ := keep3 hb wr.heap.size (.int .i64 0) (.int .i64 0) (.bool false) (by simp [go_sem]) (by simp [go_sem]) (by simp [go_sem]) (by simp [go_sem]) (by simp [go_sem]) (by simp [go_sem])) | (go_at_call 29; refine (C'.out _).mono ?_; rintro e w' ⟨rfl, hb⟩))
                  · refine at_exit (fun W2 hW => ?_)
                    have hH : Below wr.heap.size wr W2 := by rw [hW]; exact andL (by assumption)
                    have BN : Box W2 w'.heap.size (ix r0) (ix r1) (.bool r2) := by rw [hW]; exact Box.new _ _ _ _
                    have hne : w.heap.size ≠ w'.heap.size := by have h1 := Bx.lt; have h2 := hb.size; simp at h2; omega
                    generalize w'.heap.size = N at *
                    have BX := Bx.keep hH
                    have hB2 := hB.trans (hH.mono hB.size)
                    have E0 := cell_later hH e0
                    have E1 := cell_later hH e1
                    clear hW hH hb Bx hB e0 e1 x0 x1 x2 x3 x4 x5
                    try clear n0 n1 n2 n3 n4 n5
                    obtain ⟨x0, x1, x2, x3, x4, x5⟩ := (⟨BX.c0, BX.c1, BX.c2, BX.f0, BX.f1, BX.f2⟩ : _ ∧ _ ∧ _ ∧ _ ∧ _ ∧ _)
                    obtain ⟨y0, y1, y2, y3, y4, y5⟩ := (⟨BN.c0, BN.c1, BN.c2, BN.f0, BN.f1, BN.f2⟩ : _ ∧ _ ∧ _ ∧ _ ∧ _ ∧ _)
                    go_wp2_with fail
                    refine at_world (fun W3 hW => ?_)
                    have BX3 : Box W3 w.heap.size (ix r0) (ix r1) (.bool r2) := by rw [hW]; exact BX.store
                    have hB3 : Below w.heap.size w W3 := by rw [hW]; exact below_store hB2 (Nat.le_refl _)
                    clear hW BX hB2 x0 x1 x2 x3 x4 x5 y0 y1 y2 y3 y4 y5 BN E0 E1
                    have hval : (validN r0 r1 r2 V == 0) = false := by unfold validN; cases r2 <;> simp <;> omega
                    refine (valid_any _ _ _ _ _).mono ?_
                    rintro e w4 ⟨rfl, hb⟩
                    have BX4 := BX3.keep hb
                    obtain ⟨t0, t1, t2, _, _, _⟩ := (⟨BX4.c0, BX4.c1, BX4.c2, BX4.f0, BX4.f1, BX4.f2⟩ : _ ∧ _ ∧ _ ∧ _ ∧ _ ∧ _)
                    have hB4 := hB3.trans (hb.mono hB3.size)
                    clear hb BX3 hB3
                    go_wp2_with fail
                    go_roundw
                    case rel => exact ⟨k + 1, r0, r1, r2, by omega, by omega, by go_num, (by first | (simp; done) | (simp; omega)), by omega, Hr.out, (fun h => absurd h (by omega)), BX4, hB4⟩
                    case measure => simp [intOf]; omega
                  · refine at_exit (fun W2 hW => ?_)
                    have hH : Below wr.heap.size wr W2 := by rw [hW]; exact andL (by assumption)
                    have BN : Box W2 wr.heap.size (ix r0) (ix r1) (.bool r2) := by rw [hW]; exact Box.store (⟨n0, n1, n2, n3, n4, n5⟩ : Box w' wr.heap.size _ _ _)
                    have hne : w.heap.size ≠ wr.heap.size := by have h1 := Bx.lt; omega
                    generalize hN : wr.heap.size = N at *
                    rw [← hN] at hH
                    clear hN
                    have BX := Bx.keep hH
                    have hB2 := hB.trans (hH.mono hB.size)
                    have E0 := cell_later hH e0
                    have E1 := cell_later hH e1
                    clear hW hH hb Bx hB e0 e1 x0 x1 x2 x3 x4 x5
                    try clear n0 n1 n2 n3 n4 n5
                    obtain ⟨x0, x1, x2, x3, x4, x5⟩ := (⟨BX.c0, BX.c1, BX.c2, BX.f0, BX.f1, BX.f2⟩ : _ ∧ _ ∧ _ ∧ _ ∧ _ ∧ _)
                    obtain ⟨y0, y1, y2, y3, y4, y5⟩ := (⟨BN.c0, BN.c1, BN.c2, BN.f0, BN.f1, BN.f2⟩ : _ ∧ _ ∧ _ ∧ _ ∧ _ ∧ _)
                    go_wp2_with fail
                    refine at_world (fun W3 hW => ?_)
                    have BX3 : Box W3 w.heap.size (ix r0) (ix r1) (.bool r2) := by rw [hW]; exact BX.store
                    have hB3 : Below w.heap.size w W3 := by rw [hW]; exact below_store hB2 (Nat.le_refl _)
                    clear hW BX hB2 x0 x1 x2 x3 x4 x5 y0 y1 y2 y3 y4 y5 BN E0 E1
                    have hval : (validN r0 r1 r2 V == 0) = false := by unfold validN; cases r2 <;> simp <;> omega
                    refine (valid_any _ _ _ _ _).mono ?_
                    rintro e w4 ⟨rfl, hb⟩
                    have BX4 := BX3.keep hb
                    obtain ⟨t0, t1, t2, _, _, _⟩ := (⟨BX4.c0, BX4.c1, BX4.c2, BX4.f0, BX4.f1, BX4.f2⟩ : _ ∧ _ ∧ _ ∧ _ ∧ _ ∧ _)
                    have hB4 := hB3.trans (hb.mono hB3.size)
                    clear hb BX3 hB3
                    go_wp2_with fail
                    go_roundw
                    case rel => exact ⟨k + 1, r0, r1, r2, by omega, by omega, by go_num, (by first | (simp; done) | (simp; omega)), by omega, Hr.out, (fun h => absurd h (by omega)), BX4, hB4⟩
                    case measure => simp [intOf]; omega
                · have c3 : v < r0 := by omega
                  have c4 : V < r0 := by omega
                  clear c2
                  have C' := Lib.hid C
                  clear C
                  obtain ⟨x0, x1, x2, x3, x4, x5⟩ := (⟨Bx.c0, Bx.c1, Bx.c2, Bx.f0, Bx.f1, Bx.f2⟩ : _ ∧ _ ∧ _ ∧ _ ∧ _ ∧ _)
                  go_wp2_with fail
                  go_region_held3 (fun W => Below wr.heap.size wr W ∧ W.cell? ⟨w.heap.size, 0, none⟩ = some (ix v) ∧ W.cell? ⟨w.heap.size, 1, none⟩ = some (ix o) ∧ W.cell? ⟨w.heap.size, 2, none⟩ = some (.bool g) ∧ W.cell? ⟨b, off + k * 2, none⟩ = some (.int .i64 kd) ∧ W.cell? ⟨b, off + k * 2 + 1, none⟩ = some (.int .i64 who))
                    (first | exact s1 Bx e0 e1 (Below.refl _ _).drew | exact s1 Bx e0 e1 (stepB' (by assumption) (by assumption) (Nat.le_refl _)) | exact s1 Bx e0 e1 (stepA (by assumption) (Nat.le_refl _)) | exact s1 Bx e0 e1 (stepS (by assumption) (Nat.le_refl _)) | exact s1 Bx e0 e1 (stepC (by assumption)) | fail)
                    (first | (go_at_call 29; (with_reducible refine (C'.out ((wr.alloc (.cells #[.int .i64 0, .int .i64 0, .bool false] 23)).drew)).mono ?_); rintro e w' ⟨rfl, hb⟩; obtain ⟨n0, n1, n2, n3, n4, n5⟩ := keep3 hb wr.heap.size (.int .i64 0) (.int .i64 0) (.bool false) (by simp [go_sem]) (by simp [go_sem]) (by simp [go_sem]) (by simp [go_sem]) (by simp [go_sem]) (by simp [go_sem])) | (go_at_call 29; refine (C'.out _).mono ?_; rintro e w' ⟨rfl, hb⟩))
                  · refine at_exit (fun W2 hW => ?_)
                    have hH : Below wr.heap.size wr W2 := by rw [hW]; exact andL (by assumption)
                    have BN : Box W2 w'.heap.size (ix r0) (ix r1) (.bool r2) := by rw [hW]; exact Box.new _ _ _ _
                    have hne : w.heap.size ≠ w'.heap.size := by have h1 := Bx.lt; have h2 := hb.size; simp at h2; omega
                    generalize w'.heap.size = N at *
                    have BX := Bx.keep hH
                    have hB2 := hB.trans (hH.mono hB.size)
                    have E0 := cell_later hH e0
                    have E1 := cell_later hH e1
                    clear hW hH hb Bx hB e0 e1 x0 x1 x2 x3 x4 x5
                    try clear n0 n1 n2 n3 n4 n5
                    obtain ⟨x0, x1, x2, x3, x4, x5⟩ := (⟨BX.c0, BX.c1, BX.c2, BX.f0, BX.f1, BX.f2⟩ : _ ∧ _ ∧ _ ∧ _ ∧ _ ∧ _)
                    obtain ⟨y0, y1, y2, y3, y4, y5⟩ := (⟨BN.c0, BN.c1, BN.c2, BN.f0, BN.f1, BN.f2⟩ : _ ∧ _ ∧ _ ∧ _ ∧ _ ∧ _)
                    go_wp2_with fail
                    refine at_world (fun W3 hW => ?_)
                    have BX3 : Box W3 w.heap.size (ix r0) (ix r1) (.bool r2) := by rw [hW]; exact BX.store
                    have hB3 : Below w.heap.size w W3 := by rw [hW]; exact below_store hB2 (Nat.le_refl _)
                    clear hW BX hB2 x0 x1 x2 x3 x4 x5 y0 y1 y2 y3 y4 y5 BN E0 E1
                    have hval : (validN r0 r1 r2 V == 0) = false := by unfold validN; cases r2 <;> simp <;> omega
                    refine (valid_any _ _ _ _ _).mono ?_
                    rintro e w4 ⟨rfl, hb⟩
                    have BX4 := BX3.keep hb
                    obtain ⟨t0, t1, t2, _, _, _⟩ := (⟨BX4.c0, BX4.c1, BX4.c2, BX4.f0, BX4.f1, BX4.f2⟩ : _ ∧ _ ∧ _ ∧ _ ∧ _ ∧ _)
                    have hB4 := hB3.trans (hb.mono hB3.size)
                    clear hb BX3 hB3
                    go_wp2_with fail
                    go_roundw
                    case rel => exact ⟨k + 1, r0, r1, r2, by omega, by omega, by go_num, (by first | (simp; done) | (simp; omega)), by omega, Hr.out, (fun h => absurd h (by omega)), BX4, hB4⟩
                    case measure => simp [intOf]; omega
                  · refine at_exit (fun W2 hW => ?_)
                    have hH : Below wr.heap.size wr W2 := by rw [hW]; exact andL (by assumption)
                    have BN : Box W2 wr.heap.size (ix r0) (ix r1) (.bool r2) := by rw [hW]; exact Box.store (⟨n0, n1, n2, n3, n4, n5⟩ : Box w' wr.heap.size _ _ _)
                    have hne : w.heap.size ≠ wr.heap.size := by have h1 := Bx.lt; omega
                    generalize hN : wr.heap.size = N at *
                    rw [← hN] at hH
                    clear hN
                    have BX := Bx.keep hH
                    have hB2 := hB.trans (hH.mono hB.size)
                    have E0 := cell_later hH e0
                    have E1 := cell_later hH e1
                    clear hW hH hb Bx hB e0 e1 x0 x1 x2 x3 x4 x5
                    try clear n0 n1 n2 n3 n4 n5
                    obtain ⟨x0, x1, x2, x3, x4, x5⟩ := (⟨BX.c0, BX.c1, BX.c2, BX.f0, BX.f1, BX.f2⟩ : _ ∧ _ ∧ _ ∧ _ ∧ _ ∧ _)
                    obtain ⟨y0, y1, y2, y3, y4, y5⟩ := (⟨BN.c0, BN.c1, BN.c2, BN.f0, BN.f1, BN.f2⟩ : _ ∧ _ ∧ _ ∧ _ ∧ _ ∧ _)
                    go_wp2_with fail
                    refine at_world (fun W3 hW => ?_)
                    have BX3 : Box W3 w.heap.size (ix r0) (ix r1) (.bool r2) := by rw [hW]; exact BX.store
                    have hB3 : Below w.heap.size w W3 := by rw [hW]; exact below_store hB2 (Nat.le_refl _)
                    clear hW BX hB2 x0 x1 x2 x3 x4 x5 y0 y1 y2 y3 y4 y5 BN E0 E1
                    have hval : (validN r0 r1 r2 V == 0) = false := by unfold validN; cases r2 <;> simp <;> omega
                    refine (valid_any _ _ _ _ _).mono ?_
                    rintro e w4 ⟨rfl, hb⟩
                    have BX4 := BX3.keep hb
                    obtain ⟨t0, t1, t2, _, _, _⟩ := (⟨BX4.c0, BX4.c1, BX4.c2, BX4.f0, BX4.f1, BX4.f2⟩ : _ ∧ _ ∧ _ ∧ _ ∧ _ ∧ _)
                    have hB4 := hB3.trans (hb.mono hB3.size)
                    clear hb BX3 hB3
                    go_wp2_with fail
                    go_roundw
                    case rel => exact ⟨k + 1, r0, r1, r2, by omega, by omega, by go_num, (by first | (simp; done) | (simp; omega)), by omega, Hr.out, (fun h => absurd h (by omega)), BX4, hB4⟩
                    case measure => simp [intOf]; omega
            · have hvV : v = V := by omega
              have hg := HG.out hvV
              subst hvV hg
              clear c HG
              rcases step_version v o false kd who HR.out with e | ⟨r0, r1, r2, e, hr, hc⟩
              · rw [e] at C
                clear e
                have C' := Lib.hid C
                clear C
                obtain ⟨x0, x1, x2, x3, x4, x5⟩ := (⟨Bx.c0, Bx.c1, Bx.c2, Bx.f0, Bx.f1, Bx.f2⟩ : _ ∧ _ ∧ _ ∧ _ ∧ _ ∧ _)
                go_wp2_with fail
                go_region_held3 (fun W => Below wr.heap.size wr W ∧ W.cell? ⟨w.heap.size, 0, none⟩ = some (ix v) ∧ W.cell? ⟨w.heap.size, 1, none⟩ = some (ix o) ∧ W.cell? ⟨w.heap.size, 2, none⟩ = some (.bool false) ∧ W.cell? ⟨b, off + k * 2, none⟩ = some (.int .i64 kd) ∧ W.cell? ⟨b, off + k * 2 + 1, none⟩ = some (.int .i64 who))
                  (first | exact s1 Bx e0 e1 (Below.refl _ _).drew | exact s1 Bx e0 e1 (stepB' (by assumption) (by assumption) (Nat.le_refl _)) | exact s1 Bx e0 e1 (stepA (by assumption) (Nat.le_refl _)) | exact s1 Bx e0 e1 (stepS (by assumption) (Nat.le_refl _)) | exact s1 Bx e0 e1 (stepC (by assumption)) | fail)
                  (first | (go_at_call 29; (with_reducible refine (C'.out ((wr.alloc (.cells #[.int .i64 0, .int .i64 0, .bool false] 23)).drew)).mono ?_); rintro e w' ⟨rfl, hb⟩; obtain ⟨n0, n1, n2, n3, n4, n5⟩ := keep3 hb wr.heap.size (.int .i64 0) (.int .i64 0) (.bool false) (by simp [go_sem]) (by simp [go_sem]) (by simp [go_sem]) (by simp [go_sem]) (by simp [go_sem]) (by simp [go_sem])) | (go_at_call 29; refine (C'.out _).mono ?_; rintro e w' ⟨rfl, hb⟩))
                · refine at_exit (fun W2 hW => ?_)
                  have hH : Below wr.heap.size wr W2 := by rw [hW]; exact andL (by assumption)
                  have BN : Box W2 w'.heap.size (ix v) (ix o) (.bool false) := by rw [hW]; exact Box.new _ _ _ _
                  have hne : w.heap.size ≠ w'.heap.size := by have h1 := Bx.lt; have h2 := hb.size; simp at h2; omega
                  generalize w'.heap.size = N at *
                  have BX := Bx.keep hH
                  have hB2 := hB.trans (hH.mono hB.size)
                  have E0 := cell_later hH e0
                  have E1 := cell_later hH e1
                  clear hW hH hb Bx hB e0 e1 x0 x1 x2 x3 x4 x5
                  try clear n0 n1 n2 n3 n4 n5
                  obtain ⟨x0, x1, x2, x3, x4, x5⟩ := (⟨BX.c0, BX.c1, BX.c2, BX.f0, BX.f1, BX.f2⟩ : _ ∧ _ ∧ _ ∧ _ ∧ _ ∧ _)
                  obtain ⟨y0, y1, y2, y3, y4, y5⟩ := (⟨BN.c0, BN.c1, BN.c2, BN.f0, BN.f1, BN.f2⟩ : _ ∧ _ ∧ _ ∧ _ ∧ _ ∧ _)
                  go_wp2_with fail
                  refine at_world (fun W3 hW => ?_)
                  have BX3 : Box W3 w.heap.size (ix v) (ix o) (.bool false) := by rw [hW]; exact BX.store
                  have hB3 : Below w.heap.size w W3 := by rw [hW]; exact below_store hB2 (Nat.le_refl _)
                  clear hW BX hB2 x0 x1 x2 x3 x4 x5 y0 y1 y2 y3 y4 y5 BN E0 E1
                  have hval : (validN v o false v == 0) = (o == 0) := by unfold validN; by_cases z : o = 0 <;> simp [z]
                  refine (valid_any _ _ _ _ _).mono ?_
                  rintro e w4 ⟨rfl, hb⟩
                  have BX4 := BX3.keep hb
                  obtain ⟨t0, t1, t2, _, _, _⟩ := (⟨BX4.c0, BX4.c1, BX4.c2, BX4.f0, BX4.f1, BX4.f2⟩ : _ ∧ _ ∧ _ ∧ _ ∧ _ ∧ _)
                  have hB4 := hB3.trans (hb.mono hB3.size)
                  clear hb BX3 hB3
                  go_wp2_with fail
                  go_roundw
                  case rel => exact ⟨k + 1, v, o, false, by omega, by omega, by go_num, (by first | (simp; done) | (simp; omega)), by omega, HR.out, (fun _ => rfl), BX4, hB4⟩
                  case measure => simp [intOf]; omega
                · refine at_exit (fun W2 hW => ?_)
                  have hH : Below wr.heap.size wr W2 := by rw [hW]; exact andL (by assumption)
                  have BN : Box W2 wr.heap.size (ix v) (ix o) (.bool false) := by rw [hW]; exact Box.store (⟨n0, n1, n2, n3, n4, n5⟩ : Box w' wr.heap.size _ _ _)
                  have hne : w.heap.size ≠ wr.heap.size := by have h1 := Bx.lt; omega
                  generalize hN : wr.heap.size = N at *
                  rw [← hN] at hH
                  clear hN
                  have BX := Bx.keep hH
                  have hB2 := hB.trans (hH.mono hB.size)
                  have E0 := cell_later hH e0
                  have E1 := cell_later hH e1
                  clear hW hH hb Bx hB e0 e1 x0 x1 x2 x3 x4 x5
                  try clear n0 n1 n2 n3 n4 n5
                  obtain ⟨x0, x1, x2, x3, x4, x5⟩ := (⟨BX.c0, BX.c1, BX.c2, BX.f0, BX.f1, BX.f2⟩ : _ ∧ _ ∧ _ ∧ _ ∧ _ ∧ _)
                  obtain ⟨y0, y1, y2, y3, y4, y5⟩ := (⟨BN.c0, BN.c1, BN.c2, BN.f0, BN.f1, BN.f2⟩ : _ ∧ _ ∧ _ ∧ _ ∧ _ ∧ _)
                  go_wp2_with fail
                  refine at_world (fun W3 hW => ?_)
                  have BX3 : Box W3 w.heap.size (ix v) (ix o) (.bool false) := by rw [hW]; exact BX.store
                  have hB3 : Below w.heap.size w W3 := by rw [hW]; exact below_store hB2 (Nat.le_refl _)
                  clear hW BX hB2 x0 x1 x2 x3 x4 x5 y0 y1 y2 y3 y4 y5 BN E0 E1
                  have hval : (validN v o false v == 0) = (o == 0) := by unfold validN; by_cases z : o = 0 <;> simp [z]
                  refine (valid_any _ _ _ _ _).mono ?_
                  rintro e w4 ⟨rfl, hb⟩
                  have BX4 := BX3.keep hb
                  obtain ⟨t0, t1, t2, _, _, _⟩ := (⟨BX4.c0, BX4.c1, BX4.c2, BX4.f0, BX4.f1, BX4.f2⟩ : _ ∧ _ ∧ _ ∧ _ ∧ _ ∧ _)
                  have hB4 := hB3.trans (hb.mono hB3.size)
                  clear hb BX3 hB3
                  go_wp2_with fail
                  go_roundw
                  case rel => exact ⟨k + 1, v, o, false, by omega, by omega, by go_num, (by first | (simp; done) | (simp; omega)), by omega, HR.out, (fun _ => rfl), BX4, hB4⟩
                  case measure => simp [intOf]; omega
              · rw [e] at C
                clear e
                have Hr := Lib.hid hr
                clear hr
                rcases hc with ⟨c1, c2, c3⟩ | ⟨c1, c2⟩
                · subst c2 c3
                  have c5 : decide (2 ≤ kd) = false := by simp; omega
                  have C' := Lib.hid C
                  clear C
                  obtain ⟨x0, x1, x2, x3, x4, x5⟩ := (⟨Bx.c0, Bx.c1, Bx.c2, Bx.f0, Bx.f1, Bx.f2⟩ : _ ∧ _ ∧ _ ∧ _ ∧ _ ∧ _)
                  go_wp2_with fail
                  go_region_held3 (fun W => Below wr.heap.size wr W ∧ W.cell? ⟨w.heap.size, 0, none⟩ = some (ix r0) ∧ W.cell? ⟨w.heap.size, 1, none⟩ = some (ix o) ∧ W.cell? ⟨w.heap.size, 2, none⟩ = some (.bool false) ∧ W.cell? ⟨b, off + k * 2, none⟩ = some (.int .i64 kd) ∧ W.cell? ⟨b, off + k * 2 + 1, none⟩ = some (.int .i64 who))
                    (first | exact s1 Bx e0 e1 (Below.refl _ _).drew | exact s1 Bx e0 e1 (stepB' (by assumption) (by assumption) (Nat.le_refl _)) | exact s1 Bx e0 e1 (stepA (by assumption) (Nat.le_refl _)) | exact s1 Bx e0 e1 (stepS (by assumption) (Nat.le_refl _)) | exact s1 Bx e0 e1 (stepC (by assumption)) | fail)
                    (first | (go_at_call 29; (with_reducible refine (C'.out ((wr.alloc (.cells #[.int .i64 0, .int .i64 0, .bool false] 23)).drew)).mono ?_); rintro e w' ⟨rfl, hb⟩; obtain ⟨n0, n1, n2, n3, n4, n5⟩ := keep3 hb wr.heap.size (.int .i64 0) (.int .i64 0) (.bool false) (by simp [go_sem]) (by simp [go_sem]) (by simp [go_sem]) (by simp [go_sem]) (by simp [go_sem]) (by simp [go_sem])) | (go_at_call 29; refine (C'.out _).mono ?_; rintro e w' ⟨rfl, hb⟩))
                  · refine at_exit (fun W2 hW => ?_)
                    have hH : Below wr.heap.size wr W2 := by rw [hW]; exact andL (by assumption)
                    have BN : Box W2 w'.heap.size (ix r0) (ix r1) (.bool false) := by rw [hW]; exact Box.new _ _ _ _
                    have hne : w.heap.size ≠ w'.heap.size := by have h1 := Bx.lt; have h2 := hb.size; simp at h2; omega
                    generalize w'.heap.size = N at *
                    have BX := Bx.keep hH
                    have hB2 := hB.trans (hH.mono hB.size)
                    have E0 := cell_later hH e0
                    have E1 := cell_later hH e1
                    clear hW hH hb Bx hB e0 e1 x0 x1 x2 x3 x4 x5
                    try clear n0 n1 n2 n3 n4 n5
                    obtain ⟨x0, x1, x2, x3, x4, x5⟩ := (⟨BX.c0, BX.c1, BX.c2, BX.f0, BX.f1, BX.f2⟩ : _ ∧ _ ∧ _ ∧ _ ∧ _ ∧ _)
                    obtain ⟨y0, y1, y2, y3, y4, y5⟩ := (⟨BN.c0, BN.c1, BN.c2, BN.f0, BN.f1, BN.f2⟩ : _ ∧ _ ∧ _ ∧ _ ∧ _ ∧ _)
                    go_wp2_with fail
                    refine at_world (fun W3 hW => ?_)
                    have BX3 : Box W3 w.heap.size (ix r0) (ix r1) (.bool false) := by rw [hW]; exact BX.store
                    have hB3 : Below w.heap.size w W3 := by rw [hW]; exact below_store hB2 (Nat.le_refl _)
                    clear hW BX hB2 x0 x1 x2 x3 x4 x5 y0 y1 y2 y3 y4 y5 BN E0 E1
                    have hval : (validN r0 r1 false r0 == 0) = (r1 == 0) := by unfold validN; by_cases z : r1 = 0 <;> simp [z]
                    refine (valid_any _ _ _ _ _).mono ?_
                    rintro e w4 ⟨rfl, hb⟩
                    have BX4 := BX3.keep hb
                    obtain ⟨t0, t1, t2, _, _, _⟩ := (⟨BX4.c0, BX4.c1, BX4.c2, BX4.f0, BX4.f1, BX4.f2⟩ : _ ∧ _ ∧ _ ∧ _ ∧ _ ∧ _)
                    have hB4 := hB3.trans (hb.mono hB3.size)
                    clear hb BX3 hB3
                    go_wp2_with fail
                    go_roundw
                    case rel => exact ⟨k + 1, r0, r1, false, by omega, by omega, by go_num, (by first | (simp; done) | (simp; omega)), by omega, Hr.out, (fun _ => rfl), BX4, hB4⟩
                    case measure => simp [intOf]; omega
                  · refine at_exit (fun W2 hW => ?_)
                    have hH : Below wr.heap.size wr W2 := by rw [hW]; exact andL (by assumption)
                    have BN : Box W2 wr.heap.size (ix r0) (ix r1) (.bool false) := by rw [hW]; exact Box.store (⟨n0, n1, n2, n3, n4, n5⟩ : Box w' wr.heap.size _ _ _)
                    have hne : w.heap.size ≠ wr.heap.size := by have h1 := Bx.lt; omega
                    generalize hN : wr.heap.size = N at *
                    rw [← hN] at hH
                    clear hN
                    have BX := Bx.keep hH
                    have hB2 := hB.trans (hH.mono hB.size)
                    have E0 := cell_later hH e0
                    have E1 := cell_later hH e1
                    clear hW hH hb Bx hB e0 e1 x0 x1 x2 x3 x4 x5
                    try clear n0 n1 n2 n3 n4 n5
                    obtain ⟨x0, x1, x2, x3, x4, x5⟩ := (⟨BX.c0, BX.c1, BX.c2, BX.f0, BX.f1, BX.f2⟩ : _ ∧ _ ∧ _ ∧ _ ∧ _ ∧ _)
                    obtain ⟨y0, y1, y2, y3, y4, y5⟩ := (⟨BN.c0, BN.c1, BN.c2, BN.f0, BN.f1, BN.f2⟩ : _ ∧ _ ∧ _ ∧ _ ∧ _ ∧ _)
                    go_wp2_with fail
                    refine at_world (fun W3 hW => ?_)
                    have BX3 : Box W3 w.heap.size (ix r0) (ix r1) (.bool false) := by rw [hW]; exact BX.store
                    have hB3 : Below w.heap.size w W3 := by rw [hW]; exact below_store hB2 (Nat.le_refl _)
                    clear hW BX hB2 x0 x1 x2 x3 x4 x5 y0 y1 y2 y3 y4 y5 BN E0 E1
                    have hval : (validN r0 r1 false r0 == 0) = (r1 == 0) := by unfold validN; by_cases z : r1 = 0 <;> simp [z]
                    refine (valid_any _ _ _ _ _).mono ?_
                    rintro e w4 ⟨rfl, hb⟩
                    have BX4 := BX3.keep hb
                    obtain ⟨t0, t1, t2, _, _, _⟩ := (⟨BX4.c0, BX4.c1, BX4.c2, BX4.f0, BX4.f1, BX4.f2⟩ : _ ∧ _ ∧ _ ∧ _ ∧ _ ∧ _)
                    have hB4 := hB3.trans (hb.mono hB3.size)
                    clear hb BX3 hB3
                    go_wp2_with fail
                    go_roundw
                    case rel => exact ⟨k + 1, r0, r1, false, by omega, by omega, by go_num, (by first | (simp; done) | (simp; omega)), by omega, Hr.out, (fun _ => rfl), BX4, hB4⟩
                    case measure => simp [intOf]; omega
                · have c3 : v < r0 := by omega
                  clear c2
                  have C' := Lib.hid C
                  clear C
                  obtain ⟨x0, x1, x2, x3, x4, x5⟩ := (⟨Bx.c0, Bx.c1, Bx.c2, Bx.f0, Bx.f1, Bx.f2⟩ : _ ∧ _ ∧ _ ∧ _ ∧ _ ∧ _)
                  go_wp2_with fail
                  go_region_held3 (fun W => Below wr.heap.size wr W ∧ W.cell? ⟨w.heap.size, 0, none⟩ = some (ix v) ∧ W.cell? ⟨w.heap.size, 1, none⟩ = some (ix o) ∧ W.cell? ⟨w.heap.size, 2, none⟩ = some (.bool false) ∧ W.cell? ⟨b, off + k * 2, none⟩ = some (.int .i64 kd) ∧ W.cell? ⟨b, off + k * 2 + 1, none⟩ = some (.int .i64 who))
                    (first | exact s1 Bx e0 e1 (Below.refl _ _).drew | exact s1 Bx e0 e1 (stepB' (by assumption) (by assumption) (Nat.le_refl _)) | exact s1 Bx e0 e1 (stepA (by assumption) (Nat.le_refl _)) | exact s1 Bx e0 e1 (stepS (by assumption) (Nat.le_refl _)) | exact s1 Bx e0 e1 (stepC (by assumption)) | fail)
                    (first | (go_at_call 29; (with_reducible refine (C'.out ((wr.alloc (.cells #[.int .i64 0, .int .i64 0, .bool false] 23)).drew)).mono ?_); rintro e w' ⟨rfl, hb⟩; obtain ⟨n0, n1, n2, n3, n4, n5⟩ := keep3 hb wr.heap.size (.int .i64 0) (.int .i64 0) (.bool false) (by simp [go_sem]) (by simp [go_sem]) (by simp [go_sem]) (by simp [go_sem]) (by simp [go_sem]) (by simp [go_sem])) | (go_at_call 29; refine (C'.out _).mono ?_; rintro e w' ⟨rfl, hb⟩))
                  · refine at_exit (fun W2 hW => ?_)
                    have hH : Below wr.heap.size wr W2 := by rw [hW]; exact andL (by assumption)
                    have BN : Box W2 w'.heap.size (ix r0) (ix r1) (.bool r2) := by rw [hW]; exact Box.new _ _ _ _
                    have hne : w.heap.size ≠ w'.heap.size := by have h1 := Bx.lt; have h2 := hb.size; simp at h2; omega
                    generalize w'.heap.size = N at *
                    have BX := Bx.keep hH
                    have hB2 := hB.trans (hH.mono hB.size)
                    have E0 := cell_later hH e0
                    have E1 := cell_later hH e1
                    clear hW hH hb Bx hB e0 e1 x0 x1 x2 x3 x4 x5
                    try clear n0 n1 n2 n3 n4 n5
                    obtain ⟨x0, x1, x2, x3, x4, x5⟩ := (⟨BX.c0, BX.c1, BX.c2, BX.f0, BX.f1, BX.f2⟩ : _ ∧ _ ∧ _ ∧ _ ∧ _ ∧ _)
                    obtain ⟨y0, y1, y2, y3, y4, y5⟩ := (⟨BN.c0, BN.c1, BN.c2, BN.f0, BN.f1, BN.f2⟩ : _ ∧ _ ∧ _ ∧ _ ∧ _ ∧ _)
                    go_wp2_with fail
                    refine at_world (fun W3 hW => ?_)
                    have BX3 : Box W3 w.heap.size (ix r0) (ix r1) (.bool r2) := by rw [hW]; exact BX.store
                    have hB3 : Below w.heap.size w W3 := by rw [hW]; exact below_store hB2 (Nat.le_refl _)
                    clear hW BX hB2 x0 x1 x2 x3 x4 x5 y0 y1 y2 y3 y4 y5 BN E0 E1
                    have hval : (validN r0 r1 r2 v == 0) = false := by unfold validN; cases r2 <;> simp <;> omega
                    refine (valid_any _ _ _ _ _).mono ?_
                    rintro e w4 ⟨rfl, hb⟩
                    have BX4 := BX3.keep hb
                    obtain ⟨t0, t1, t2, _, _, _⟩ := (⟨BX4.c0, BX4.c1, BX4.c2, BX4.f0, BX4.f1, BX4.f2⟩ : _ ∧ _ ∧ _ ∧ _ ∧ _ ∧ _)
                    have hB4 := hB3.trans (hb.mono hB3.size)
                    clear hb BX3 hB3
                    go_wp2_with fail
                    go_roundw
                    case rel => exact ⟨k + 1, r0, r1, r2, by omega, by omega, by go_num, (by first | (simp; done) | (simp; omega)), by omega, Hr.out, (fun h => absurd h (by omega)), BX4, hB4⟩
                    case measure => simp [intOf]; omega
                  · refine at_exit (fun W2 hW => ?_)
                    have hH : Below wr.heap.size wr W2 := by rw [hW]; exact andL (by assumption)
                    have BN : Box W2 wr.heap.size (ix r0) (ix r1) (.bool r2) := by rw [hW]; exact Box.store (⟨n0, n1, n2, n3, n4, n5⟩ : Box w' wr.heap.size _ _ _)
                    have hne : w.heap.size ≠ wr.heap.size := by have h1 := Bx.lt; omega
                    generalize hN : wr.heap.size = N at *
                    rw [← hN] at hH
                    clear hN
                    have BX := Bx.keep hH
                    have hB2 := hB.trans (hH.mono hB.size)
                    have E0 := cell_later hH e0
                    have E1 := cell_later hH e1
                    clear hW hH hb Bx hB e0 e1 x0 x1 x2 x3 x4 x5
                    try clear n0 n1 n2 n3 n4 n5
                    obtain ⟨x0, x1, x2, x3, x4, x5⟩ := (⟨BX.c0, BX.c1, BX.c2, BX.f0, BX.f1, BX.f2⟩ : _ ∧ _ ∧ _ ∧ _ ∧ _ ∧ _)
                    obtain ⟨y0, y1, y2, y3, y4, y5⟩ := (⟨BN.c0, BN.c1, BN.c2, BN.f0, BN.f1, BN.f2⟩ : _ ∧ _ ∧ _ ∧ _ ∧ _ ∧ _)
                    go_wp2_with fail
                    refine at_world (fun W3 hW => ?_)
                    have BX3 : Box W3 w.heap.size (ix r0) (ix r1) (.bool r2) := by rw [hW]; exact BX.store
                    have hB3 : Below w.heap.size w W3 := by rw [hW]; exact below_store hB2 (Nat.le_refl _)
                    clear hW BX hB2 x0 x1 x2 x3 x4 x5 y0 y1 y2 y3 y4 y5 BN E0 E1
                    have hval : (validN r0 r1 r2 v == 0) = false := by unfold validN; cases r2 <;> simp <;> omega
                    refine (valid_any _ _ _ _ _).mono ?_
                    rintro e w4 ⟨rfl, hb⟩
                    have BX4 := BX3.keep hb
                    obtain ⟨t0, t1, t2, _, _, _⟩ := (⟨BX4.c0, BX4.c1, BX4.c2, BX4.f0, BX4.f1, BX4.f2⟩ : _ ∧ _ ∧ _ ∧ _ ∧ _ ∧ _)
                    have hB4 := hB3.trans (hb.mono hB3.size)
                    clear hb BX3 hB3
                    go_wp2_with fail
                    go_roundw
                    case rel => exact ⟨k + 1, r0, r1, r2, by omega, by omega, by go_num, (by first | (simp; done) | (simp; omega)), by omega, Hr.out, (fun h => absurd h (by omega)), BX4, hB4⟩
                    case measure => simp [intOf]; omega
          · have q1 : decide ((k : Int) < 100) = false := by simp; omega
            have q2 : decide (k < 100) = false := by simp; omega
            go_wp2_with fail
            refine (live_any _).mono ?_
            rintro e w1 ⟨rfl, hb⟩
            go_wp2_with fail
            go_ret
            exact ⟨rfl, hB.trans (hb.mono hB.size)⟩
end Go.Proofs.Ytpgiidfifhocpaa
