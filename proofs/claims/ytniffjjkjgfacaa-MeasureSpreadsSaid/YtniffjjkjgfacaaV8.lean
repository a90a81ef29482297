/- The law MeasureSpreads. -/
import Derived.Test.YtniffjjkjgfacaaV7
import Derived.Test.YtniffjjkjgfacaaZ8
namespace Go.Proofs.Ytniffjjkjgfacaa
set_option linter.unusedSimpArgs false
open Go.RowKit Go.Maps Go.Shelf
set_option linter.unusedVariables false
set_option maxRecDepth 100000 in
set_option maxHeartbeats 4000000 in
theorem spreads_few (b0 o0 n cap k : Nat) (at_ : Int) (xs : List Int) (w : World) (hl : xs.length = n) (hm : n ≤ 40) (hck : k < cap) (hnc : n ≤ cap) (hk : k ≤ n) (hA : EI.Rd w (some ⟨b0, o0, none⟩) xs)
    (h0 : 0 ≤ at_) (h1 : at_ ≤ 255) (hmod : at_.tmod ((n : Int) + 1) = (k : Int)) :
    Calls Try.prog 4 #[.slice (some ⟨b0, o0, none⟩) n cap, .int .u8 at_] w fun e w' => e = .returned (.bool true) ∧ Below w.heap.size w w' := by
  have k1 : ¬ (40 : Int) < (n : Int) := by omega
  have km : min (n : Int) 40 = (n : Int) := by omega
  have e1 : IntKind.i64.wrap (n : Int) = (n : Int) := IntWalk.i64_in _ (by omega)
  have e3 : ¬ ((n : Int) + 1 = 0) := by omega
  have hk2 : k ≤ cap := by omega
  have hck2 : ¬ cap = k := by omega
  have S1 := Lib.hid (spread_any (some ⟨b0, o0, none⟩) n cap xs w hl (by omega) hA)
  have S2 : Hid (∀ W, Below w.heap.size w W → Calls Try.prog 10 #[.slice (some ⟨b0, o0, none⟩) n cap] W fun e w' => e = .returned (.tuple #[.int .i64 (spA xs), .int .i64 (spB xs), .int .i64 (spC xs)]) ∧ Below W.heap.size W w') := Lib.hid (fun W hW => ref10 (some ⟨b0, o0, none⟩) n cap xs W hl (by omega) (hA.later hW))
  have hu := sp_up xs
  have hr := sp_rot xs k
  have hlr : (xs.drop k ++ xs.take k).length = n := by rw [(rot_perm xs k).length_eq]; exact hl
  have S3 : Hid (∀ W A' c', EI.Rd W A' (xs.drop k ++ xs.take k) → Calls Try.prog 9 #[.slice A' n c'] W fun e w' => e = .returned (.tuple #[.int .i64 (spA xs), .int .i64 (spB xs), .int .i64 (spC xs)]) ∧ Below W.heap.size W w') := Lib.hid (fun W A' c' h => by
    have q := spread_any A' n c' _ W hlr (by omega) h
    rw [hr.1, hr.2.1, hr.2.2] at q
    exact q)
  have HDL : Hid ((xs.drop k).length = n - k) := Lib.hid (by rw [List.length_drop, hl])
  have HTL : Hid ((xs.take k).length = k) := Lib.hid (by rw [List.length_take, hl]; omega)
  have HLK : Hid (n - k + k = n) := Lib.hid (by omega)
  clear hr hlr
  have HA : Hid (∀ W, Below w.heap.size w W → EI.Rd W (some ⟨b0, o0, none⟩) xs) := Lib.hid (fun W hW => hA.later hW)
  obtain ⟨a, ha⟩ : ∃ a, a = spA xs := ⟨_, rfl⟩
  obtain ⟨b, hb⟩ : ∃ b, b = spB xs := ⟨_, rfl⟩
  obtain ⟨c, hcc⟩ : ∃ c, c = spC xs := ⟨_, rfl⟩
  rw [← ha, ← hb, ← hcc] at S1 S2 S3
  rw [← ha, ← hb, ← hcc] at hu
  obtain ⟨hu1, hu2⟩ := hu
  clear ha hb hcc hA hl
  go_enter Try.func4, Try.ntmps4
  go_wp2_with (first
    | (go_at_call 9; ((with_reducible refine S1.out.mono ?_); rintro e w1 ⟨rfl, b1⟩; have B1 := Lib.hid b1; clear b1))
    | (go_at_call 10; ((with_reducible refine (S2.out _ B1.out).mono ?_); rintro e w2 ⟨rfl, b2⟩; have B2 := Lib.hid (bel_trans B1.out b2); clear b2))
    | fail)
  have HW3 : Hid (Below w.heap.size w (w2.alloc (.cells #[] 3)).drew) := Lib.hid (bel_alloc B2.out _).drew
  refine wp_region_held_drew (S := (fun V : World => True)) (by kernel_rfl) ?_ (fun hHeld => ?_)
  · trivial
  have HHeld := Lib.hid hHeld; clear hHeld
  refine wpAnyH_take (i := 1) (oi := { dst := some 40, op := Op.move (Operand.tmp 0), type := 26, pos := "law.go:58", after := #[], guard := none }) (v := ?_) rfl (by kernel_rfl) (by kernel_rfl) (by kernel_rfl) (fun _ _ _ h => h) (Or.inl ⟨by rfl, ?_⟩) HHeld.out ?_
  rotate_left
  · intro w hSw; clear hSw; go_simp; try with_reducible rfl
  try simp only [Act.put, List.setIfInBounds_toArray, List.set_cons_zero, List.set_cons_succ]
  refine wpAnyH_take (i := 2) (oi := { dst := some 41, op := Op.move (Operand.tmp 11), type := 3, pos := "law.go:58", after := #[], guard := none }) (v := ?_) rfl (by kernel_rfl) (by kernel_rfl) (by kernel_rfl) (fun _ _ _ h => h) (Or.inl ⟨by rfl, ?_⟩) HHeld.out ?_
  rotate_left
  · intro w hSw; clear hSw; go_simp; try with_reducible rfl
  try simp only [Act.put, List.setIfInBounds_toArray, List.set_cons_zero, List.set_cons_succ]
  refine wpAnyH_take (i := 3) (oi := { dst := some 42, op := Op.slice 26 (Operand.tmp 40) (some (Operand.tmp 41)) none none, type := 26, pos := "law.go:58", after := #[{ on := 1, ground := Ground.data }, { on := 2, ground := Ground.data }], guard := none }) (v := ?_) rfl (by kernel_rfl) (by kernel_rfl) (by kernel_rfl) (fun _ _ _ h => h) (Or.inl ⟨by rfl, ?_⟩) HHeld.out ?_
  rotate_left
  · intro w hSw; clear hSw; go_simp; try with_reducible rfl
  try simp only [Act.put, List.setIfInBounds_toArray, List.set_cons_zero, List.set_cons_succ]
  refine wpAnyH_take (i := 5) (oi := { dst := some 44, op := Op.move (Operand.tmp 0), type := 26, pos := "law.go:58", after := #[], guard := none }) (v := ?_) rfl (by kernel_rfl) (by kernel_rfl) (by kernel_rfl) (fun _ _ _ h => h) (Or.inl ⟨by rfl, ?_⟩) HHeld.out ?_
  rotate_left
  · intro w hSw; clear hSw; go_simp; try with_reducible rfl
  try simp only [Act.put, List.setIfInBounds_toArray, List.set_cons_zero, List.set_cons_succ]
  refine wpAnyH_take (i := 6) (oi := { dst := some 45, op := Op.move (Operand.tmp 11), type := 3, pos := "law.go:58", after := #[], guard := none }) (v := ?_) rfl (by kernel_rfl) (by kernel_rfl) (by kernel_rfl) (fun _ _ _ h => h) (Or.inl ⟨by rfl, ?_⟩) HHeld.out ?_
  rotate_left
  · intro w hSw; clear hSw; go_simp; try with_reducible rfl
  try simp only [Act.put, List.setIfInBounds_toArray, List.set_cons_zero, List.set_cons_succ]
  refine wpAnyH_take (i := 7) (oi := { dst := some 46, op := Op.slice 26 (Operand.tmp 44) none (some (Operand.tmp 45)) none, type := 26, pos := "law.go:58", after := #[{ on := 5, ground := Ground.data }, { on := 6, ground := Ground.data }], guard := none }) (v := ?_) rfl (by kernel_rfl) (by kernel_rfl) (by kernel_rfl) (fun _ _ _ h => h) (Or.inl ⟨by rfl, ?_⟩) HHeld.out ?_
  rotate_left
  · intro w hSw; clear hSw; go_simp; try with_reducible rfl
  try simp only [Act.put, List.setIfInBounds_toArray, List.set_cons_zero, List.set_cons_succ]
  refine wpAnyH_ready (rs := [0]) (by kernel_rfl) (by simp) ?_
  refine AllReadyH.cons (o := { dst := some 39, op := Op.buildSlice 26 0 #[], type := 26, pos := "law.go:58", after := #[], guard := none }) rfl (fun K hK => ?_) AllReadyH.nil
  go_simp
  refine hK.out _ _ ?_ (fun hHeld => ?_)
  · trivial
  clear HHeld; have HHeld := Lib.hid hHeld; clear hHeld
  clear hK K
  try simp only [Act.put, List.setIfInBounds_toArray, List.set_cons_zero, List.set_cons_succ]
  refine wpAnyH_ready (rs := [4]) (by kernel_rfl) (by simp) ?_
  refine AllReadyH.cons (o := { dst := some 43, op := Op.call { callee := Callee.builtin Builtin.append, args := #[Operand.tmp 39, Operand.tmp 42], argTypes := #[26, 26] }, type := 26, pos := "law.go:58", after := #[{ on := 0, ground := Ground.data }, { on := 3, ground := Ground.data }], guard := none }) rfl (fun K hK => ?_) AllReadyH.nil
  refine RE.step_put EI _ rfl (.tmp 39) (.tmp 42) rfl (base := w2.heap.size) (some ⟨w2.heap.size, 0, none⟩) 0 0 [] (some ⟨b0, o0 + k, none⟩) (n - k) (cap - k) (xs.drop k) (by simp [Act.eval, Act.put]) (by simp [Act.eval, Act.put]) (.inl ⟨rfl, rfl⟩) rfl (by omega) (by simp) HDL.out (by omega) (rd_drop (HA.out _ HW3.out) k _ _ rfl) ?_
  intro A1 c1 w3 r1 r2 r3
  have R1 : Hid (EI.Row w3 w2.heap.size A1 (xs.drop k) c1) := Lib.hid r1
  have B3 : Hid (Below w.heap.size w w3) := Lib.hid (HW3.out.trans (RE.Row.below (E := EI) (W := w2) (base := w2.heap.size) (l := []) r2 (.inl ⟨rfl, rfl⟩) B2.out.size HW3.out.size))
  have Z3 : Hid (w2.heap.size ≤ w3.heap.size) := Lib.hid (Nat.le_trans (by simp) r2.size)
  clear r1 r2 r3
  refine hK.out _ _ ?_ (fun hHeld => ?_)
  · trivial
  clear HHeld; have HHeld := Lib.hid hHeld; clear hHeld
  clear hK K
  try simp only [Act.put, List.setIfInBounds_toArray, List.set_cons_zero, List.set_cons_succ]
  refine wpAnyH_ready (rs := [8]) (by kernel_rfl) (by simp) ?_
  refine AllReadyH.cons (o := { dst := some 47, op := Op.call { callee := Callee.builtin Builtin.append, args := #[Operand.tmp 43, Operand.tmp 46], argTypes := #[26, 26] }, type := 26, pos := "law.go:58", after := #[{ on := 4, ground := Ground.data }, { on := 7, ground := Ground.data }, { on := 4, ground := Ground.chain }], guard := none }) rfl (fun K hK => ?_) AllReadyH.nil
  refine RE.step_put EI _ rfl (.tmp 43) (.tmp 46) rfl (base := w2.heap.size) A1 (n - k) c1 (xs.drop k) (some ⟨b0, o0, none⟩) k cap (xs.take k) (by simp [Act.eval, Act.put]) (by simp [Act.eval, Act.put]) R1.out HDL.out (by omega) Z3.out HTL.out (by omega) ((HA.out _ B3.out).take k) ?_
  intro A2 c2 w4 r1 r2 r3
  have R2 := Lib.hid r1.rd
  have B4 : Hid (Below w.heap.size w w4) := Lib.hid (B3.out.trans (RE.Row.below r2 R1.out B2.out.size B3.out.size))
  clear r1 r2 r3
  refine hK.out _ _ ?_ (fun hHeld => ?_)
  · trivial
  clear HHeld; have HHeld := Lib.hid hHeld; clear hHeld
  clear hK K
  try simp only [Act.put, List.setIfInBounds_toArray, List.set_cons_zero, List.set_cons_succ]
  refine wpAnyH_ready (rs := [9]) (by kernel_rfl) (by simp) ?_
  refine AllReadyH.cons (o := { dst := some 48, op := Op.call { callee := Callee.value (Operand.func 9), args := #[Operand.tmp 47], argTypes := #[26] }, type := 27, pos := "law.go:58", after := #[{ on := 8, ground := Ground.data }, { on := 8, ground := Ground.chain }], guard := none }) rfl (fun K hK => ?_) AllReadyH.nil
  go_simp
  try rw [HLK.out]
  go_at_call 9; ((with_reducible refine (S3.out _ _ _ R2.out).mono ?_); rintro e w5 ⟨rfl, b5⟩; have B5 := Lib.hid (bel_trans B4.out b5); clear b5)
  refine hK.out _ _ ?_ (fun hHeld => ?_)
  · trivial
  clear HHeld; have HHeld := Lib.hid hHeld; clear hHeld
  clear hK K
  try simp only [Act.put, List.setIfInBounds_toArray, List.set_cons_zero, List.set_cons_succ]
  refine wpAnyH_take (i := 10) (oi := { dst := some 38, op := Op.move (Operand.tmp 48), type := 27, pos := "law.go:58", after := #[{ on := 9, ground := Ground.data }], guard := none }) (v := ?_) rfl (by kernel_rfl) (by kernel_rfl) (by kernel_rfl) (fun _ _ _ h => h) (Or.inl ⟨by rfl, ?_⟩) HHeld.out ?_
  rotate_left
  · intro w hSw; clear hSw; go_simp; try with_reducible rfl
  try simp only [Act.put, List.setIfInBounds_toArray, List.set_cons_zero, List.set_cons_succ]
  refine wpAnyH_take (i := 11) (oi := { dst := some 49, op := Op.extract (Operand.tmp 38) 0, type := 3, pos := "law.go:58", after := #[{ on := 10, ground := Ground.data }], guard := none }) (v := ?_) rfl (by kernel_rfl) (by kernel_rfl) (by kernel_rfl) (fun _ _ _ h => h) (Or.inl ⟨by rfl, ?_⟩) HHeld.out ?_
  rotate_left
  · intro w hSw; clear hSw; go_simp; try with_reducible rfl
  try simp only [Act.put, List.setIfInBounds_toArray, List.set_cons_zero, List.set_cons_succ]
  refine wpAnyH_take (i := 12) (oi := { dst := some 50, op := Op.extract (Operand.tmp 38) 1, type := 3, pos := "law.go:58", after := #[{ on := 10, ground := Ground.data }, { on := 14, ground := Ground.gcOnly Departure.lateStores }], guard := none }) (v := ?_) rfl (by kernel_rfl) (by kernel_rfl) (by kernel_rfl) (fun _ _ _ h => h) (Or.inl ⟨by rfl, ?_⟩) HHeld.out ?_
  rotate_left
  · intro w hSw; clear hSw; go_simp; try with_reducible rfl
  try simp only [Act.put, List.setIfInBounds_toArray, List.set_cons_zero, List.set_cons_succ]
  refine wpAnyH_take (i := 13) (oi := { dst := some 51, op := Op.extract (Operand.tmp 38) 2, type := 3, pos := "law.go:58", after := #[{ on := 10, ground := Ground.data }, { on := 15, ground := Ground.gcOnly Departure.lateStores }], guard := none }) (v := ?_) rfl (by kernel_rfl) (by kernel_rfl) (by kernel_rfl) (fun _ _ _ h => h) (Or.inl ⟨by rfl, ?_⟩) HHeld.out ?_
  rotate_left
  · intro w hSw; clear hSw; go_simp; try with_reducible rfl
  try simp only [Act.put, List.setIfInBounds_toArray, List.set_cons_zero, List.set_cons_succ]
  refine wpAnyH_take (i := 14) (oi := { dst := some 12, op := Op.assign (Operand.tmp 49), type := 3, pos := "law.go:58", after := #[{ on := 11, ground := Ground.data }, { on := 9, ground := Ground.chain }, { on := 0, ground := Ground.phase }, { on := 1, ground := Ground.phase }, { on := 2, ground := Ground.phase }, { on := 3, ground := Ground.phase }, { on := 4, ground := Ground.phase }, { on := 5, ground := Ground.phase }, { on := 6, ground := Ground.phase }, { on := 7, ground := Ground.phase }, { on := 8, ground := Ground.phase }, { on := 9, ground := Ground.phase }, { on := 10, ground := Ground.phase }, { on := 11, ground := Ground.phase }, { on := 12, ground := Ground.textOnly Departure.lateStores }, { on := 13, ground := Ground.textOnly Departure.lateStores }], guard := none }) (v := ?_) rfl (by kernel_rfl) (by kernel_rfl) (by kernel_rfl) (fun _ _ _ h => h) (Or.inl ⟨by rfl, ?_⟩) HHeld.out ?_
  rotate_left
  · intro w hSw; clear hSw; go_simp; try with_reducible rfl
  try simp only [Act.put, List.setIfInBounds_toArray, List.set_cons_zero, List.set_cons_succ]
  refine wpAnyH_take (i := 15) (oi := { dst := some 13, op := Op.assign (Operand.tmp 50), type := 3, pos := "law.go:58", after := #[{ on := 12, ground := Ground.data }, { on := 14, ground := Ground.chain }, { on := 0, ground := Ground.phase }, { on := 1, ground := Ground.phase }, { on := 2, ground := Ground.phase }, { on := 3, ground := Ground.phase }, { on := 4, ground := Ground.phase }, { on := 5, ground := Ground.phase }, { on := 6, ground := Ground.phase }, { on := 7, ground := Ground.phase }, { on := 8, ground := Ground.phase }, { on := 9, ground := Ground.phase }, { on := 10, ground := Ground.phase }, { on := 11, ground := Ground.phase }, { on := 12, ground := Ground.phase }, { on := 13, ground := Ground.textOnly Departure.lateStores }, { on := 14, ground := Ground.phase }], guard := none }) (v := ?_) rfl (by kernel_rfl) (by kernel_rfl) (by kernel_rfl) (fun _ _ _ h => h) (Or.inl ⟨by rfl, ?_⟩) HHeld.out ?_
  rotate_left
  · intro w hSw; clear hSw; go_simp; try with_reducible rfl
  try simp only [Act.put, List.setIfInBounds_toArray, List.set_cons_zero, List.set_cons_succ]
  refine wpAnyH_take (i := 16) (oi := { dst := some 14, op := Op.assign (Operand.tmp 51), type := 3, pos := "law.go:58", after := #[{ on := 13, ground := Ground.data }, { on := 15, ground := Ground.chain }, { on := 0, ground := Ground.phase }, { on := 1, ground := Ground.phase }, { on := 2, ground := Ground.phase }, { on := 3, ground := Ground.phase }, { on := 4, ground := Ground.phase }, { on := 5, ground := Ground.phase }, { on := 6, ground := Ground.phase }, { on := 7, ground := Ground.phase }, { on := 8, ground := Ground.phase }, { on := 9, ground := Ground.phase }, { on := 10, ground := Ground.phase }, { on := 11, ground := Ground.phase }, { on := 12, ground := Ground.phase }, { on := 13, ground := Ground.phase }, { on := 14, ground := Ground.phase }, { on := 15, ground := Ground.phase }], guard := none }) (v := ?_) rfl (by kernel_rfl) (by kernel_rfl) (by kernel_rfl) (fun _ _ _ h => h) (Or.inl ⟨by rfl, ?_⟩) HHeld.out ?_
  rotate_left
  · intro w hSw; clear hSw; go_simp; try with_reducible rfl
  try simp only [Act.put, List.setIfInBounds_toArray, List.set_cons_zero, List.set_cons_succ]
  refine wpAnyH_done (by kernel_rfl) ?_ _
  go_wp2_with (go_at_call 8; ((with_reducible refine (live_true _).mono ?_); rintro e w6 ⟨rfl, b6⟩; have B6 := Lib.hid (bel_trans B5.out b6); clear b6))
  go_ret
  exact ⟨rfl, B6.out⟩
set_option maxRecDepth 100000 in
set_option maxHeartbeats 4000000 in
theorem spreads_many (b0 o0 n cap k : Nat) (at_ : Int) (xs : List Int) (w : World) (hl : xs.length = 40) (hm : 40 < n) (hck : k < cap) (hnc : 40 ≤ cap) (hk : k ≤ 40) (hA : EI.Rd w (some ⟨b0, o0, none⟩) xs)
    (h0 : 0 ≤ at_) (h1 : at_ ≤ 255) (hmod : at_.tmod (41) = (k : Int)) :
    Calls Try.prog 4 #[.slice (some ⟨b0, o0, none⟩) n cap, .int .u8 at_] w fun e w' => e = .returned (.bool true) ∧ Below w.heap.size w w' := by
  have k1 : (40 : Int) < (n : Int) := by omega
  have km : min (n : Int) 40 = 40 := by omega
  have hk3 : (k : Int) ≤ 40 := by omega
  have hk2 : k ≤ cap := by omega
  have hck2 : ¬ cap = k := by omega
  have S1 := Lib.hid (spread_any (some ⟨b0, o0, none⟩) 40 cap xs w hl (by omega) hA)
  have S2 : Hid (∀ W, Below w.heap.size w W → Calls Try.prog 10 #[.slice (some ⟨b0, o0, none⟩) 40 cap] W fun e w' => e = .returned (.tuple #[.int .i64 (spA xs), .int .i64 (spB xs), .int .i64 (spC xs)]) ∧ Below W.heap.size W w') := Lib.hid (fun W hW => ref10 (some ⟨b0, o0, none⟩) 40 cap xs W hl (by omega) (hA.later hW))
  have hu := sp_up xs
  have hr := sp_rot xs k
  have hlr : (xs.drop k ++ xs.take k).length = 40 := by rw [(rot_perm xs k).length_eq]; exact hl
  have S3 : Hid (∀ W A' c', EI.Rd W A' (xs.drop k ++ xs.take k) → Calls Try.prog 9 #[.slice A' 40 c'] W fun e w' => e = .returned (.tuple #[.int .i64 (spA xs), .int .i64 (spB xs), .int .i64 (spC xs)]) ∧ Below W.heap.size W w') := Lib.hid (fun W A' c' h => by
    have q := spread_any A' 40 c' _ W hlr (by omega) h
    rw [hr.1, hr.2.1, hr.2.2] at q
    exact q)
  have HDL : Hid ((xs.drop k).length = 40 - k) := Lib.hid (by rw [List.length_drop, hl])
  have HTL : Hid ((xs.take k).length = k) := Lib.hid (by rw [List.length_take, hl]; omega)
  have HLK : Hid (40 - k + k = 40) := Lib.hid (by omega)
  clear hr hlr
  have HA : Hid (∀ W, Below w.heap.size w W → EI.Rd W (some ⟨b0, o0, none⟩) xs) := Lib.hid (fun W hW => hA.later hW)
  obtain ⟨a, ha⟩ : ∃ a, a = spA xs := ⟨_, rfl⟩
  obtain ⟨b, hb⟩ : ∃ b, b = spB xs := ⟨_, rfl⟩
  obtain ⟨c, hcc⟩ : ∃ c, c = spC xs := ⟨_, rfl⟩
  rw [← ha, ← hb, ← hcc] at S1 S2 S3
  rw [← ha, ← hb, ← hcc] at hu
  obtain ⟨hu1, hu2⟩ := hu
  clear ha hb hcc hA hl
  go_enter Try.func4, Try.ntmps4
  go_wp2_with (first
    | (go_at_call 9; ((with_reducible refine S1.out.mono ?_); rintro e w1 ⟨rfl, b1⟩; have B1 := Lib.hid b1; clear b1))
    | (go_at_call 10; ((with_reducible refine (S2.out _ B1.out).mono ?_); rintro e w2 ⟨rfl, b2⟩; have B2 := Lib.hid (bel_trans B1.out b2); clear b2))
    | fail)
  have HW3 : Hid (Below w.heap.size w (w2.alloc (.cells #[] 3)).drew) := Lib.hid (bel_alloc B2.out _).drew
  refine wp_region_held_drew (S := (fun V : World => True)) (by kernel_rfl) ?_ (fun hHeld => ?_)
  · trivial
  have HHeld := Lib.hid hHeld; clear hHeld
  refine wpAnyH_take (i := 1) (oi := { dst := some 40, op := Op.move (Operand.tmp 0), type := 26, pos := "law.go:58", after := #[], guard := none }) (v := ?_) rfl (by kernel_rfl) (by kernel_rfl) (by kernel_rfl) (fun _ _ _ h => h) (Or.inl ⟨by rfl, ?_⟩) HHeld.out ?_
  rotate_left
  · intro w hSw; clear hSw; go_simp; try with_reducible rfl
  try simp only [Act.put, List.setIfInBounds_toArray, List.set_cons_zero, List.set_cons_succ]
  refine wpAnyH_take (i := 2) (oi := { dst := some 41, op := Op.move (Operand.tmp 11), type := 3, pos := "law.go:58", after := #[], guard := none }) (v := ?_) rfl (by kernel_rfl) (by kernel_rfl) (by kernel_rfl) (fun _ _ _ h => h) (Or.inl ⟨by rfl, ?_⟩) HHeld.out ?_
  rotate_left
  · intro w hSw; clear hSw; go_simp; try with_reducible rfl
  try simp only [Act.put, List.setIfInBounds_toArray, List.set_cons_zero, List.set_cons_succ]
  refine wpAnyH_take (i := 3) (oi := { dst := some 42, op := Op.slice 26 (Operand.tmp 40) (some (Operand.tmp 41)) none none, type := 26, pos := "law.go:58", after := #[{ on := 1, ground := Ground.data }, { on := 2, ground := Ground.data }], guard := none }) (v := ?_) rfl (by kernel_rfl) (by kernel_rfl) (by kernel_rfl) (fun _ _ _ h => h) (Or.inl ⟨by rfl, ?_⟩) HHeld.out ?_
  rotate_left
  · intro w hSw; clear hSw; go_simp; try with_reducible rfl
  try simp only [Act.put, List.setIfInBounds_toArray, List.set_cons_zero, List.set_cons_succ]
  refine wpAnyH_take (i := 5) (oi := { dst := some 44, op := Op.move (Operand.tmp 0), type := 26, pos := "law.go:58", after := #[], guard := none }) (v := ?_) rfl (by kernel_rfl) (by kernel_rfl) (by kernel_rfl) (fun _ _ _ h => h) (Or.inl ⟨by rfl, ?_⟩) HHeld.out ?_
  rotate_left
  · intro w hSw; clear hSw; go_simp; try with_reducible rfl
  try simp only [Act.put, List.setIfInBounds_toArray, List.set_cons_zero, List.set_cons_succ]
  refine wpAnyH_take (i := 6) (oi := { dst := some 45, op := Op.move (Operand.tmp 11), type := 3, pos := "law.go:58", after := #[], guard := none }) (v := ?_) rfl (by kernel_rfl) (by kernel_rfl) (by kernel_rfl) (fun _ _ _ h => h) (Or.inl ⟨by rfl, ?_⟩) HHeld.out ?_
  rotate_left
  · intro w hSw; clear hSw; go_simp; try with_reducible rfl
  try simp only [Act.put, List.setIfInBounds_toArray, List.set_cons_zero, List.set_cons_succ]
  refine wpAnyH_take (i := 7) (oi := { dst := some 46, op := Op.slice 26 (Operand.tmp 44) none (some (Operand.tmp 45)) none, type := 26, pos := "law.go:58", after := #[{ on := 5, ground := Ground.data }, { on := 6, ground := Ground.data }], guard := none }) (v := ?_) rfl (by kernel_rfl) (by kernel_rfl) (by kernel_rfl) (fun _ _ _ h => h) (Or.inl ⟨by rfl, ?_⟩) HHeld.out ?_
  rotate_left
  · intro w hSw; clear hSw; go_simp; try with_reducible rfl
  try simp only [Act.put, List.setIfInBounds_toArray, List.set_cons_zero, List.set_cons_succ]
  refine wpAnyH_ready (rs := [0]) (by kernel_rfl) (by simp) ?_
  refine AllReadyH.cons (o := { dst := some 39, op := Op.buildSlice 26 0 #[], type := 26, pos := "law.go:58", after := #[], guard := none }) rfl (fun K hK => ?_) AllReadyH.nil
  go_simp
  refine hK.out _ _ ?_ (fun hHeld => ?_)
  · trivial
  clear HHeld; have HHeld := Lib.hid hHeld; clear hHeld
  clear hK K
  try simp only [Act.put, List.setIfInBounds_toArray, List.set_cons_zero, List.set_cons_succ]
  refine wpAnyH_ready (rs := [4]) (by kernel_rfl) (by simp) ?_
  refine AllReadyH.cons (o := { dst := some 43, op := Op.call { callee := Callee.builtin Builtin.append, args := #[Operand.tmp 39, Operand.tmp 42], argTypes := #[26, 26] }, type := 26, pos := "law.go:58", after := #[{ on := 0, ground := Ground.data }, { on := 3, ground := Ground.data }], guard := none }) rfl (fun K hK => ?_) AllReadyH.nil
  refine RE.step_put EI _ rfl (.tmp 39) (.tmp 42) rfl (base := w2.heap.size) (some ⟨w2.heap.size, 0, none⟩) 0 0 [] (some ⟨b0, o0 + k, none⟩) (40 - k) (cap - k) (xs.drop k) (by simp [Act.eval, Act.put]) (by simp [Act.eval, Act.put]) (.inl ⟨rfl, rfl⟩) rfl (by omega) (by simp) HDL.out (by omega) (rd_drop (HA.out _ HW3.out) k _ _ rfl) ?_
  intro A1 c1 w3 r1 r2 r3
  have R1 : Hid (EI.Row w3 w2.heap.size A1 (xs.drop k) c1) := Lib.hid r1
  have B3 : Hid (Below w.heap.size w w3) := Lib.hid (HW3.out.trans (RE.Row.below (E := EI) (W := w2) (base := w2.heap.size) (l := []) r2 (.inl ⟨rfl, rfl⟩) B2.out.size HW3.out.size))
  have Z3 : Hid (w2.heap.size ≤ w3.heap.size) := Lib.hid (Nat.le_trans (by simp) r2.size)
  clear r1 r2 r3
  refine hK.out _ _ ?_ (fun hHeld => ?_)
  · trivial
  clear HHeld; have HHeld := Lib.hid hHeld; clear hHeld
  clear hK K
  try simp only [Act.put, List.setIfInBounds_toArray, List.set_cons_zero, List.set_cons_succ]
  refine wpAnyH_ready (rs := [8]) (by kernel_rfl) (by simp) ?_
  refine AllReadyH.cons (o := { dst := some 47, op := Op.call { callee := Callee.builtin Builtin.append, args := #[Operand.tmp 43, Operand.tmp 46], argTypes := #[26, 26] }, type := 26, pos := "law.go:58", after := #[{ on := 4, ground := Ground.data }, { on := 7, ground := Ground.data }, { on := 4, ground := Ground.chain }], guard := none }) rfl (fun K hK => ?_) AllReadyH.nil
  refine RE.step_put EI _ rfl (.tmp 43) (.tmp 46) rfl (base := w2.heap.size) A1 (40 - k) c1 (xs.drop k) (some ⟨b0, o0, none⟩) k cap (xs.take k) (by simp [Act.eval, Act.put]) (by simp [Act.eval, Act.put]) R1.out HDL.out (by omega) Z3.out HTL.out (by omega) ((HA.out _ B3.out).take k) ?_
  intro A2 c2 w4 r1 r2 r3
  have R2 := Lib.hid r1.rd
  have B4 : Hid (Below w.heap.size w w4) := Lib.hid (B3.out.trans (RE.Row.below r2 R1.out B2.out.size B3.out.size))
  clear r1 r2 r3
  refine hK.out _ _ ?_ (fun hHeld => ?_)
  · trivial
  clear HHeld; have HHeld := Lib.hid hHeld; clear hHeld
  clear hK K
  try simp only [Act.put, List.setIfInBounds_toArray, List.set_cons_zero, List.set_cons_succ]
  refine wpAnyH_ready (rs := [9]) (by kernel_rfl) (by simp) ?_
  refine AllReadyH.cons (o := { dst := some 48, op := Op.call { callee := Callee.value (Operand.func 9), args := #[Operand.tmp 47], argTypes := #[26] }, type := 27, pos := "law.go:58", after := #[{ on := 8, ground := Ground.data }, { on := 8, ground := Ground.chain }], guard := none }) rfl (fun K hK => ?_) AllReadyH.nil
  go_simp
  try rw [HLK.out]
  go_at_call 9; ((with_reducible refine (S3.out _ _ _ R2.out).mono ?_); rintro e w5 ⟨rfl, b5⟩; have B5 := Lib.hid (bel_trans B4.out b5); clear b5)
  refine hK.out _ _ ?_ (fun hHeld => ?_)
  · trivial
  clear HHeld; have HHeld := Lib.hid hHeld; clear hHeld
  clear hK K
  try simp only [Act.put, List.setIfInBounds_toArray, List.set_cons_zero, List.set_cons_succ]
  refine wpAnyH_take (i := 10) (oi := { dst := some 38, op := Op.move (Operand.tmp 48), type := 27, pos := "law.go:58", after := #[{ on := 9, ground := Ground.data }], guard := none }) (v := ?_) rfl (by kernel_rfl) (by kernel_rfl) (by kernel_rfl) (fun _ _ _ h => h) (Or.inl ⟨by rfl, ?_⟩) HHeld.out ?_
  rotate_left
  · intro w hSw; clear hSw; go_simp; try with_reducible rfl
  try simp only [Act.put, List.setIfInBounds_toArray, List.set_cons_zero, List.set_cons_succ]
  refine wpAnyH_take (i := 11) (oi := { dst := some 49, op := Op.extract (Operand.tmp 38) 0, type := 3, pos := "law.go:58", after := #[{ on := 10, ground := Ground.data }], guard := none }) (v := ?_) rfl (by kernel_rfl) (by kernel_rfl) (by kernel_rfl) (fun _ _ _ h => h) (Or.inl ⟨by rfl, ?_⟩) HHeld.out ?_
  rotate_left
  · intro w hSw; clear hSw; go_simp; try with_reducible rfl
  try simp only [Act.put, List.setIfInBounds_toArray, List.set_cons_zero, List.set_cons_succ]
  refine wpAnyH_take (i := 12) (oi := { dst := some 50, op := Op.extract (Operand.tmp 38) 1, type := 3, pos := "law.go:58", after := #[{ on := 10, ground := Ground.data }, { on := 14, ground := Ground.gcOnly Departure.lateStores }], guard := none }) (v := ?_) rfl (by kernel_rfl) (by kernel_rfl) (by kernel_rfl) (fun _ _ _ h => h) (Or.inl ⟨by rfl, ?_⟩) HHeld.out ?_
  rotate_left
  · intro w hSw; clear hSw; go_simp; try with_reducible rfl
  try simp only [Act.put, List.setIfInBounds_toArray, List.set_cons_zero, List.set_cons_succ]
  refine wpAnyH_take (i := 13) (oi := { dst := some 51, op := Op.extract (Operand.tmp 38) 2, type := 3, pos := "law.go:58", after := #[{ on := 10, ground := Ground.data }, { on := 15, ground := Ground.gcOnly Departure.lateStores }], guard := none }) (v := ?_) rfl (by kernel_rfl) (by kernel_rfl) (by kernel_rfl) (fun _ _ _ h => h) (Or.inl ⟨by rfl, ?_⟩) HHeld.out ?_
  rotate_left
  · intro w hSw; clear hSw; go_simp; try with_reducible rfl
  try simp only [Act.put, List.setIfInBounds_toArray, List.set_cons_zero, List.set_cons_succ]
  refine wpAnyH_take (i := 14) (oi := { dst := some 12, op := Op.assign (Operand.tmp 49), type := 3, pos := "law.go:58", after := #[{ on := 11, ground := Ground.data }, { on := 9, ground := Ground.chain }, { on := 0, ground := Ground.phase }, { on := 1, ground := Ground.phase }, { on := 2, ground := Ground.phase }, { on := 3, ground := Ground.phase }, { on := 4, ground := Ground.phase }, { on := 5, ground := Ground.phase }, { on := 6, ground := Ground.phase }, { on := 7, ground := Ground.phase }, { on := 8, ground := Ground.phase }, { on := 9, ground := Ground.phase }, { on := 10, ground := Ground.phase }, { on := 11, ground := Ground.phase }, { on := 12, ground := Ground.textOnly Departure.lateStores }, { on := 13, ground := Ground.textOnly Departure.lateStores }], guard := none }) (v := ?_) rfl (by kernel_rfl) (by kernel_rfl) (by kernel_rfl) (fun _ _ _ h => h) (Or.inl ⟨by rfl, ?_⟩) HHeld.out ?_
  rotate_left
  · intro w hSw; clear hSw; go_simp; try with_reducible rfl
  try simp only [Act.put, List.setIfInBounds_toArray, List.set_cons_zero, List.set_cons_succ]
  refine wpAnyH_take (i := 15) (oi := { dst := some 13, op := Op.assign (Operand.tmp 50), type := 3, pos := "law.go:58", after := #[{ on := 12, ground := Ground.data }, { on := 14, ground := Ground.chain }, { on := 0, ground := Ground.phase }, { on := 1, ground := Ground.phase }, { on := 2, ground := Ground.phase }, { on := 3, ground := Ground.phase }, { on := 4, ground := Ground.phase }, { on := 5, ground := Ground.phase }, { on := 6, ground := Ground.phase }, { on := 7, ground := Ground.phase }, { on := 8, ground := Ground.phase }, { on := 9, ground := Ground.phase }, { on := 10, ground := Ground.phase }, { on := 11, ground := Ground.phase }, { on := 12, ground := Ground.phase }, { on := 13, ground := Ground.textOnly Departure.lateStores }, { on := 14, ground := Ground.phase }], guard := none }) (v := ?_) rfl (by kernel_rfl) (by kernel_rfl) (by kernel_rfl) (fun _ _ _ h => h) (Or.inl ⟨by rfl, ?_⟩) HHeld.out ?_
  rotate_left
  · intro w hSw; clear hSw; go_simp; try with_reducible rfl
  try simp only [Act.put, List.setIfInBounds_toArray, List.set_cons_zero, List.set_cons_succ]
  refine wpAnyH_take (i := 16) (oi := { dst := some 14, op := Op.assign (Operand.tmp 51), type := 3, pos := "law.go:58", after := #[{ on := 13, ground := Ground.data }, { on := 15, ground := Ground.chain }, { on := 0, ground := Ground.phase }, { on := 1, ground := Ground.phase }, { on := 2, ground := Ground.phase }, { on := 3, ground := Ground.phase }, { on := 4, ground := Ground.phase }, { on := 5, ground := Ground.phase }, { on := 6, ground := Ground.phase }, { on := 7, ground := Ground.phase }, { on := 8, ground := Ground.phase }, { on := 9, ground := Ground.phase }, { on := 10, ground := Ground.phase }, { on := 11, ground := Ground.phase }, { on := 12, ground := Ground.phase }, { on := 13, ground := Ground.phase }, { on := 14, ground := Ground.phase }, { on := 15, ground := Ground.phase }], guard := none }) (v := ?_) rfl (by kernel_rfl) (by kernel_rfl) (by kernel_rfl) (fun _ _ _ h => h) (Or.inl ⟨by rfl, ?_⟩) HHeld.out ?_
  rotate_left
  · intro w hSw; clear hSw; go_simp; try with_reducible rfl
  try simp only [Act.put, List.setIfInBounds_toArray, List.set_cons_zero, List.set_cons_succ]
  refine wpAnyH_done (by kernel_rfl) ?_ _
  go_wp2_with (go_at_call 8; ((with_reducible refine (live_true _).mono ?_); rintro e w6 ⟨rfl, b6⟩; have B6 := Lib.hid (bel_trans B5.out b6); clear b6))
  go_ret
  exact ⟨rfl, B6.out⟩
set_option maxRecDepth 100000 in
set_option maxHeartbeats 4000000 in
theorem spreads_eq (A : Option Addr) (n : Nat) (at_ : Int) (xs : List Int) (w : World) (hl : xs.length = n) (hm : n ≤ 40) (hA : EI.Rd w A xs)
    (h0 : 0 ≤ at_) (h1 : at_ ≤ 255) (hmod : at_.tmod ((n : Int) + 1) = (n : Int)) :
    Calls Try.prog 4 #[.slice A n n, .int .u8 at_] w fun e w' => e = .returned (.bool true) ∧ Below w.heap.size w w' := by
  have k1 : ¬ (40 : Int) < (n : Int) := by omega
  have km : min (n : Int) 40 = (n : Int) := by omega
  have e1 : IntKind.i64.wrap (n : Int) = (n : Int) := IntWalk.i64_in _ (by omega)
  have e3 : ¬ ((n : Int) + 1 = 0) := by omega
  have S1 := Lib.hid (spread_any A n n xs w hl (by omega) hA)
  have S2 : Hid (∀ W, Below w.heap.size w W → Calls Try.prog 10 #[.slice A n n] W fun e w' => e = .returned (.tuple #[.int .i64 (spA xs), .int .i64 (spB xs), .int .i64 (spC xs)]) ∧ Below W.heap.size W w') := Lib.hid (fun W hW => ref10 A n n xs W hl (by omega) (hA.later hW))
  have hu := sp_up xs
  have S3 : Hid (∀ W A' c', EI.Rd W A' ([] ++ xs) → Calls Try.prog 9 #[.slice A' n c'] W fun e w' => e = .returned (.tuple #[.int .i64 (spA xs), .int .i64 (spB xs), .int .i64 (spC xs)]) ∧ Below W.heap.size W w') := Lib.hid (fun W A' c' h => spread_any A' n c' _ W hl (by omega) h)
  have HTL := Lib.hid hl
  have HA : Hid (∀ W, Below w.heap.size w W → EI.Rd W A xs) := Lib.hid (fun W hW => hA.later hW)
  obtain ⟨a, ha⟩ : ∃ a, a = spA xs := ⟨_, rfl⟩
  obtain ⟨b, hb⟩ : ∃ b, b = spB xs := ⟨_, rfl⟩
  obtain ⟨c, hcc⟩ : ∃ c, c = spC xs := ⟨_, rfl⟩
  rw [← ha, ← hb, ← hcc] at S1 S2 S3
  rw [← ha, ← hb, ← hcc] at hu
  obtain ⟨hu1, hu2⟩ := hu
  clear ha hb hcc hA hl
  go_enter Try.func4, Try.ntmps4
  go_wp2_with (first
    | (go_at_call 9; ((with_reducible refine S1.out.mono ?_); rintro e w1 ⟨rfl, b1⟩; have B1 := Lib.hid b1; clear b1))
    | (go_at_call 10; ((with_reducible refine (S2.out _ B1.out).mono ?_); rintro e w2 ⟨rfl, b2⟩; have B2 := Lib.hid (bel_trans B1.out b2); clear b2))
    | fail)
  have HW3 : Hid (Below w.heap.size w (w2.alloc (.cells #[] 3)).drew) := Lib.hid (bel_alloc B2.out _).drew
  refine wp_region_held_drew (S := (fun V : World => True)) (by kernel_rfl) ?_ (fun hHeld => ?_)
  · trivial
  have HHeld := Lib.hid hHeld; clear hHeld
  refine wpAnyH_take (i := 1) (oi := { dst := some 40, op := Op.move (Operand.tmp 0), type := 26, pos := "law.go:58", after := #[], guard := none }) (v := ?_) rfl (by kernel_rfl) (by kernel_rfl) (by kernel_rfl) (fun _ _ _ h => h) (Or.inl ⟨by rfl, ?_⟩) HHeld.out ?_
  rotate_left
  · intro w hSw; clear hSw; go_simp; try with_reducible rfl
  try simp only [Act.put, List.setIfInBounds_toArray, List.set_cons_zero, List.set_cons_succ]
  refine wpAnyH_take (i := 2) (oi := { dst := some 41, op := Op.move (Operand.tmp 11), type := 3, pos := "law.go:58", after := #[], guard := none }) (v := ?_) rfl (by kernel_rfl) (by kernel_rfl) (by kernel_rfl) (fun _ _ _ h => h) (Or.inl ⟨by rfl, ?_⟩) HHeld.out ?_
  rotate_left
  · intro w hSw; clear hSw; go_simp; try with_reducible rfl
  try simp only [Act.put, List.setIfInBounds_toArray, List.set_cons_zero, List.set_cons_succ]
  refine wpAnyH_take (i := 3) (oi := { dst := some 42, op := Op.slice 26 (Operand.tmp 40) (some (Operand.tmp 41)) none none, type := 26, pos := "law.go:58", after := #[{ on := 1, ground := Ground.data }, { on := 2, ground := Ground.data }], guard := none }) (v := ?_) rfl (by kernel_rfl) (by kernel_rfl) (by kernel_rfl) (fun _ _ _ h => h) (Or.inl ⟨by rfl, ?_⟩) HHeld.out ?_
  rotate_left
  · intro w hSw; clear hSw; go_simp; try with_reducible rfl
  try simp only [Act.put, List.setIfInBounds_toArray, List.set_cons_zero, List.set_cons_succ]
  refine wpAnyH_take (i := 5) (oi := { dst := some 44, op := Op.move (Operand.tmp 0), type := 26, pos := "law.go:58", after := #[], guard := none }) (v := ?_) rfl (by kernel_rfl) (by kernel_rfl) (by kernel_rfl) (fun _ _ _ h => h) (Or.inl ⟨by rfl, ?_⟩) HHeld.out ?_
  rotate_left
  · intro w hSw; clear hSw; go_simp; try with_reducible rfl
  try simp only [Act.put, List.setIfInBounds_toArray, List.set_cons_zero, List.set_cons_succ]
  refine wpAnyH_take (i := 6) (oi := { dst := some 45, op := Op.move (Operand.tmp 11), type := 3, pos := "law.go:58", after := #[], guard := none }) (v := ?_) rfl (by kernel_rfl) (by kernel_rfl) (by kernel_rfl) (fun _ _ _ h => h) (Or.inl ⟨by rfl, ?_⟩) HHeld.out ?_
  rotate_left
  · intro w hSw; clear hSw; go_simp; try with_reducible rfl
  try simp only [Act.put, List.setIfInBounds_toArray, List.set_cons_zero, List.set_cons_succ]
  refine wpAnyH_take (i := 7) (oi := { dst := some 46, op := Op.slice 26 (Operand.tmp 44) none (some (Operand.tmp 45)) none, type := 26, pos := "law.go:58", after := #[{ on := 5, ground := Ground.data }, { on := 6, ground := Ground.data }], guard := none }) (v := ?_) rfl (by kernel_rfl) (by kernel_rfl) (by kernel_rfl) (fun _ _ _ h => h) (Or.inl ⟨by rfl, ?_⟩) HHeld.out ?_
  rotate_left
  · intro w hSw; clear hSw; go_simp; try with_reducible rfl
  try simp only [Act.put, List.setIfInBounds_toArray, List.set_cons_zero, List.set_cons_succ]
  refine wpAnyH_ready (rs := [0]) (by kernel_rfl) (by simp) ?_
  refine AllReadyH.cons (o := { dst := some 39, op := Op.buildSlice 26 0 #[], type := 26, pos := "law.go:58", after := #[], guard := none }) rfl (fun K hK => ?_) AllReadyH.nil
  go_simp
  refine hK.out _ _ ?_ (fun hHeld => ?_)
  · trivial
  clear HHeld; have HHeld := Lib.hid hHeld; clear hHeld
  clear hK K
  try simp only [Act.put, List.setIfInBounds_toArray, List.set_cons_zero, List.set_cons_succ]
  refine wpAnyH_ready (rs := [4]) (by kernel_rfl) (by simp) ?_
  refine AllReadyH.cons (o := { dst := some 43, op := Op.call { callee := Callee.builtin Builtin.append, args := #[Operand.tmp 39, Operand.tmp 42], argTypes := #[26, 26] }, type := 26, pos := "law.go:58", after := #[{ on := 0, ground := Ground.data }, { on := 3, ground := Ground.data }], guard := none }) rfl (fun K hK => ?_) AllReadyH.nil
  refine RE.step_put EI _ rfl (.tmp 39) (.tmp 42) rfl (base := w2.heap.size) (some ⟨w2.heap.size, 0, none⟩) 0 0 [] A 0 0 [] (by simp [Act.eval, Act.put]) (by simp [Act.eval, Act.put]) (.inl ⟨rfl, rfl⟩) rfl (by omega) (by simp) rfl (by omega) (.inl rfl) ?_
  intro A1 c1 w3 r1 r2 r3
  have R1 : Hid (EI.Row w3 w2.heap.size A1 [] c1) := Lib.hid r1
  have B3 : Hid (Below w.heap.size w w3) := Lib.hid (HW3.out.trans (RE.Row.below (E := EI) (W := w2) (base := w2.heap.size) (l := []) r2 (.inl ⟨rfl, rfl⟩) B2.out.size HW3.out.size))
  have Z3 : Hid (w2.heap.size ≤ w3.heap.size) := Lib.hid (Nat.le_trans (by simp) r2.size)
  clear r1 r2 r3
  refine hK.out _ _ ?_ (fun hHeld => ?_)
  · trivial
  clear HHeld; have HHeld := Lib.hid hHeld; clear hHeld
  clear hK K
  try simp only [Act.put, List.setIfInBounds_toArray, List.set_cons_zero, List.set_cons_succ]
  refine wpAnyH_ready (rs := [8]) (by kernel_rfl) (by simp) ?_
  refine AllReadyH.cons (o := { dst := some 47, op := Op.call { callee := Callee.builtin Builtin.append, args := #[Operand.tmp 43, Operand.tmp 46], argTypes := #[26, 26] }, type := 26, pos := "law.go:58", after := #[{ on := 4, ground := Ground.data }, { on := 7, ground := Ground.data }, { on := 4, ground := Ground.chain }], guard := none }) rfl (fun K hK => ?_) AllReadyH.nil
  refine RE.step_put EI _ rfl (.tmp 43) (.tmp 46) rfl (base := w2.heap.size) A1 0 c1 [] A n n xs (by simp [Act.eval, Act.put]) (by simp [Act.eval, Act.put]) R1.out rfl (by omega) Z3.out HTL.out (by omega) (HA.out _ B3.out) ?_
  intro A2 c2 w4 r1 r2 r3
  have R2 := Lib.hid r1.rd
  have B4 : Hid (Below w.heap.size w w4) := Lib.hid (B3.out.trans (RE.Row.below r2 R1.out B2.out.size B3.out.size))
  clear r1 r2 r3
  refine hK.out _ _ ?_ (fun hHeld => ?_)
  · trivial
  clear HHeld; have HHeld := Lib.hid hHeld; clear hHeld
  clear hK K
  try simp only [Act.put, List.setIfInBounds_toArray, List.set_cons_zero, List.set_cons_succ]
  refine wpAnyH_ready (rs := [9]) (by kernel_rfl) (by simp) ?_
  refine AllReadyH.cons (o := { dst := some 48, op := Op.call { callee := Callee.value (Operand.func 9), args := #[Operand.tmp 47], argTypes := #[26] }, type := 27, pos := "law.go:58", after := #[{ on := 8, ground := Ground.data }, { on := 8, ground := Ground.chain }], guard := none }) rfl (fun K hK => ?_) AllReadyH.nil
  go_simp
  go_at_call 9; ((with_reducible refine (S3.out _ _ _ R2.out).mono ?_); rintro e w5 ⟨rfl, b5⟩; have B5 := Lib.hid (bel_trans B4.out b5); clear b5)
  refine hK.out _ _ ?_ (fun hHeld => ?_)
  · trivial
  clear HHeld; have HHeld := Lib.hid hHeld; clear hHeld
  clear hK K
  try simp only [Act.put, List.setIfInBounds_toArray, List.set_cons_zero, List.set_cons_succ]
  refine wpAnyH_take (i := 10) (oi := { dst := some 38, op := Op.move (Operand.tmp 48), type := 27, pos := "law.go:58", after := #[{ on := 9, ground := Ground.data }], guard := none }) (v := ?_) rfl (by kernel_rfl) (by kernel_rfl) (by kernel_rfl) (fun _ _ _ h => h) (Or.inl ⟨by rfl, ?_⟩) HHeld.out ?_
  rotate_left
  · intro w hSw; clear hSw; go_simp; try with_reducible rfl
  try simp only [Act.put, List.setIfInBounds_toArray, List.set_cons_zero, List.set_cons_succ]
  refine wpAnyH_take (i := 11) (oi := { dst := some 49, op := Op.extract (Operand.tmp 38) 0, type := 3, pos := "law.go:58", after := #[{ on := 10, ground := Ground.data }], guard := none }) (v := ?_) rfl (by kernel_rfl) (by kernel_rfl) (by kernel_rfl) (fun _ _ _ h => h) (Or.inl ⟨by rfl, ?_⟩) HHeld.out ?_
  rotate_left
  · intro w hSw; clear hSw; go_simp; try with_reducible rfl
  try simp only [Act.put, List.setIfInBounds_toArray, List.set_cons_zero, List.set_cons_succ]
  refine wpAnyH_take (i := 12) (oi := { dst := some 50, op := Op.extract (Operand.tmp 38) 1, type := 3, pos := "law.go:58", after := #[{ on := 10, ground := Ground.data }, { on := 14, ground := Ground.gcOnly Departure.lateStores }], guard := none }) (v := ?_) rfl (by kernel_rfl) (by kernel_rfl) (by kernel_rfl) (fun _ _ _ h => h) (Or.inl ⟨by rfl, ?_⟩) HHeld.out ?_
  rotate_left
  · intro w hSw; clear hSw; go_simp; try with_reducible rfl
  try simp only [Act.put, List.setIfInBounds_toArray, List.set_cons_zero, List.set_cons_succ]
  refine wpAnyH_take (i := 13) (oi := { dst := some 51, op := Op.extract (Operand.tmp 38) 2, type := 3, pos := "law.go:58", after := #[{ on := 10, ground := Ground.data }, { on := 15, ground := Ground.gcOnly Departure.lateStores }], guard := none }) (v := ?_) rfl (by kernel_rfl) (by kernel_rfl) (by kernel_rfl) (fun _ _ _ h => h) (Or.inl ⟨by rfl, ?_⟩) HHeld.out ?_
  rotate_left
  · intro w hSw; clear hSw; go_simp; try with_reducible rfl
  try simp only [Act.put, List.setIfInBounds_toArray, List.set_cons_zero, List.set_cons_succ]
  refine wpAnyH_take (i := 14) (oi := { dst := some 12, op := Op.assign (Operand.tmp 49), type := 3, pos := "law.go:58", after := #[{ on := 11, ground := Ground.data }, { on := 9, ground := Ground.chain }, { on := 0, ground := Ground.phase }, { on := 1, ground := Ground.phase }, { on := 2, ground := Ground.phase }, { on := 3, ground := Ground.phase }, { on := 4, ground := Ground.phase }, { on := 5, ground := Ground.phase }, { on := 6, ground := Ground.phase }, { on := 7, ground := Ground.phase }, { on := 8, ground := Ground.phase }, { on := 9, ground := Ground.phase }, { on := 10, ground := Ground.phase }, { on := 11, ground := Ground.phase }, { on := 12, ground := Ground.textOnly Departure.lateStores }, { on := 13, ground := Ground.textOnly Departure.lateStores }], guard := none }) (v := ?_) rfl (by kernel_rfl) (by kernel_rfl) (by kernel_rfl) (fun _ _ _ h => h) (Or.inl ⟨by rfl, ?_⟩) HHeld.out ?_
  rotate_left
  · intro w hSw; clear hSw; go_simp; try with_reducible rfl
  try simp only [Act.put, List.setIfInBounds_toArray, List.set_cons_zero, List.set_cons_succ]
  refine wpAnyH_take (i := 15) (oi := { dst := some 13, op := Op.assign (Operand.tmp 50), type := 3, pos := "law.go:58", after := #[{ on := 12, ground := Ground.data }, { on := 14, ground := Ground.chain }, { on := 0, ground := Ground.phase }, { on := 1, ground := Ground.phase }, { on := 2, ground := Ground.phase }, { on := 3, ground := Ground.phase }, { on := 4, ground := Ground.phase }, { on := 5, ground := Ground.phase }, { on := 6, ground := Ground.phase }, { on := 7, ground := Ground.phase }, { on := 8, ground := Ground.phase }, { on := 9, ground := Ground.phase }, { on := 10, ground := Ground.phase }, { on := 11, ground := Ground.phase }, { on := 12, ground := Ground.phase }, { on := 13, ground := Ground.textOnly Departure.lateStores }, { on := 14, ground := Ground.phase }], guard := none }) (v := ?_) rfl (by kernel_rfl) (by kernel_rfl) (by kernel_rfl) (fun _ _ _ h => h) (Or.inl ⟨by rfl, ?_⟩) HHeld.out ?_
  rotate_left
  · intro w hSw; clear hSw; go_simp; try with_reducible rfl
  try simp only [Act.put, List.setIfInBounds_toArray, List.set_cons_zero, List.set_cons_succ]
  refine wpAnyH_take (i := 16) (oi := { dst := some 14, op := Op.assign (Operand.tmp 51), type := 3, pos := "law.go:58", after := #[{ on := 13, ground := Ground.data }, { on := 15, ground := Ground.chain }, { on := 0, ground := Ground.phase }, { on := 1, ground := Ground.phase }, { on := 2, ground := Ground.phase }, { on := 3, ground := Ground.phase }, { on := 4, ground := Ground.phase }, { on := 5, ground := Ground.phase }, { on := 6, ground := Ground.phase }, { on := 7, ground := Ground.phase }, { on := 8, ground := Ground.phase }, { on := 9, ground := Ground.phase }, { on := 10, ground := Ground.phase }, { on := 11, ground := Ground.phase }, { on := 12, ground := Ground.phase }, { on := 13, ground := Ground.phase }, { on := 14, ground := Ground.phase }, { on := 15, ground := Ground.phase }], guard := none }) (v := ?_) rfl (by kernel_rfl) (by kernel_rfl) (by kernel_rfl) (fun _ _ _ h => h) (Or.inl ⟨by rfl, ?_⟩) HHeld.out ?_
  rotate_left
  · intro w hSw; clear hSw; go_simp; try with_reducible rfl
  try simp only [Act.put, List.setIfInBounds_toArray, List.set_cons_zero, List.set_cons_succ]
  refine wpAnyH_done (by kernel_rfl) ?_ _
  go_wp2_with (go_at_call 8; ((with_reducible refine (live_true _).mono ?_); rintro e w6 ⟨rfl, b6⟩; have B6 := Lib.hid (bel_trans B5.out b6); clear b6))
  go_ret
  exact ⟨rfl, B6.out⟩
set_option maxRecDepth 100000 in
set_option maxHeartbeats 4000000 in
theorem spreads_zero (a0 : Addr) (cap : Nat) (at_ : Int) (xs : List Int) (w : World) (hl : xs.length = 0) (hck : 0 < cap) (hA : EI.Rd w (some a0) xs)
    (h0 : 0 ≤ at_) (h1 : at_ ≤ 255) (hmod : at_.tmod (1) = (0 : Int)) :
    Calls Try.prog 4 #[.slice (some a0) 0 cap, .int .u8 at_] w fun e w' => e = .returned (.bool true) ∧ Below w.heap.size w w' := by
  have hck2 : ¬ cap = 0 := by omega
  have km : min (0 : Int) 40 = 0 := by omega
  have S1 := Lib.hid (spread_any (some a0) 0 cap xs w hl (by omega) hA)
  have S2 : Hid (∀ W, Below w.heap.size w W → Calls Try.prog 10 #[.slice (some a0) 0 cap] W fun e w' => e = .returned (.tuple #[.int .i64 (spA xs), .int .i64 (spB xs), .int .i64 (spC xs)]) ∧ Below W.heap.size W w') := Lib.hid (fun W hW => ref10 (some a0) 0 cap xs W hl (by omega) (hA.later hW))
  have hu := sp_up xs
  have S3 : Hid (∀ W A' c', EI.Rd W A' ([] ++ xs) → Calls Try.prog 9 #[.slice A' 0 c'] W fun e w' => e = .returned (.tuple #[.int .i64 (spA xs), .int .i64 (spB xs), .int .i64 (spC xs)]) ∧ Below W.heap.size W w') := Lib.hid (fun W A' c' h => spread_any A' 0 c' _ W hl (by omega) h)
  have HTL := Lib.hid hl
  have HA : Hid (∀ W, Below w.heap.size w W → EI.Rd W (some a0) xs) := Lib.hid (fun W hW => hA.later hW)
  obtain ⟨a, ha⟩ : ∃ a, a = spA xs := ⟨_, rfl⟩
  obtain ⟨b, hb⟩ : ∃ b, b = spB xs := ⟨_, rfl⟩
  obtain ⟨c, hcc⟩ : ∃ c, c = spC xs := ⟨_, rfl⟩
  rw [← ha, ← hb, ← hcc] at S1 S2 S3
  rw [← ha, ← hb, ← hcc] at hu
  obtain ⟨hu1, hu2⟩ := hu
  clear ha hb hcc hA hl
  go_enter Try.func4, Try.ntmps4
  go_wp2_with (first
    | (go_at_call 9; ((with_reducible refine S1.out.mono ?_); rintro e w1 ⟨rfl, b1⟩; have B1 := Lib.hid b1; clear b1))
    | (go_at_call 10; ((with_reducible refine (S2.out _ B1.out).mono ?_); rintro e w2 ⟨rfl, b2⟩; have B2 := Lib.hid (bel_trans B1.out b2); clear b2))
    | fail)
  have HW3 : Hid (Below w.heap.size w (w2.alloc (.cells #[] 3)).drew) := Lib.hid (bel_alloc B2.out _).drew
  refine wp_region_held_drew (S := (fun V : World => True)) (by kernel_rfl) ?_ (fun hHeld => ?_)
  · trivial
  have HHeld := Lib.hid hHeld; clear hHeld
  refine wpAnyH_take (i := 1) (oi := { dst := some 40, op := Op.move (Operand.tmp 0), type := 26, pos := "law.go:58", after := #[], guard := none }) (v := ?_) rfl (by kernel_rfl) (by kernel_rfl) (by kernel_rfl) (fun _ _ _ h => h) (Or.inl ⟨by rfl, ?_⟩) HHeld.out ?_
  rotate_left
  · intro w hSw; clear hSw; go_simp; try with_reducible rfl
  try simp only [Act.put, List.setIfInBounds_toArray, List.set_cons_zero, List.set_cons_succ]
  refine wpAnyH_take (i := 2) (oi := { dst := some 41, op := Op.move (Operand.tmp 11), type := 3, pos := "law.go:58", after := #[], guard := none }) (v := ?_) rfl (by kernel_rfl) (by kernel_rfl) (by kernel_rfl) (fun _ _ _ h => h) (Or.inl ⟨by rfl, ?_⟩) HHeld.out ?_
  rotate_left
  · intro w hSw; clear hSw; go_simp; try with_reducible rfl
  try simp only [Act.put, List.setIfInBounds_toArray, List.set_cons_zero, List.set_cons_succ]
  refine wpAnyH_take (i := 3) (oi := { dst := some 42, op := Op.slice 26 (Operand.tmp 40) (some (Operand.tmp 41)) none none, type := 26, pos := "law.go:58", after := #[{ on := 1, ground := Ground.data }, { on := 2, ground := Ground.data }], guard := none }) (v := ?_) rfl (by kernel_rfl) (by kernel_rfl) (by kernel_rfl) (fun _ _ _ h => h) (Or.inl ⟨by rfl, ?_⟩) HHeld.out ?_
  rotate_left
  · intro w hSw; clear hSw; go_simp; try with_reducible rfl
  try simp only [Act.put, List.setIfInBounds_toArray, List.set_cons_zero, List.set_cons_succ]
  refine wpAnyH_take (i := 5) (oi := { dst := some 44, op := Op.move (Operand.tmp 0), type := 26, pos := "law.go:58", after := #[], guard := none }) (v := ?_) rfl (by kernel_rfl) (by kernel_rfl) (by kernel_rfl) (fun _ _ _ h => h) (Or.inl ⟨by rfl, ?_⟩) HHeld.out ?_
  rotate_left
  · intro w hSw; clear hSw; go_simp; try with_reducible rfl
  try simp only [Act.put, List.setIfInBounds_toArray, List.set_cons_zero, List.set_cons_succ]
  refine wpAnyH_take (i := 6) (oi := { dst := some 45, op := Op.move (Operand.tmp 11), type := 3, pos := "law.go:58", after := #[], guard := none }) (v := ?_) rfl (by kernel_rfl) (by kernel_rfl) (by kernel_rfl) (fun _ _ _ h => h) (Or.inl ⟨by rfl, ?_⟩) HHeld.out ?_
  rotate_left
  · intro w hSw; clear hSw; go_simp; try with_reducible rfl
  try simp only [Act.put, List.setIfInBounds_toArray, List.set_cons_zero, List.set_cons_succ]
  refine wpAnyH_take (i := 7) (oi := { dst := some 46, op := Op.slice 26 (Operand.tmp 44) none (some (Operand.tmp 45)) none, type := 26, pos := "law.go:58", after := #[{ on := 5, ground := Ground.data }, { on := 6, ground := Ground.data }], guard := none }) (v := ?_) rfl (by kernel_rfl) (by kernel_rfl) (by kernel_rfl) (fun _ _ _ h => h) (Or.inl ⟨by rfl, ?_⟩) HHeld.out ?_
  rotate_left
  · intro w hSw; clear hSw; go_simp; try with_reducible rfl
  try simp only [Act.put, List.setIfInBounds_toArray, List.set_cons_zero, List.set_cons_succ]
  refine wpAnyH_ready (rs := [0]) (by kernel_rfl) (by simp) ?_
  refine AllReadyH.cons (o := { dst := some 39, op := Op.buildSlice 26 0 #[], type := 26, pos := "law.go:58", after := #[], guard := none }) rfl (fun K hK => ?_) AllReadyH.nil
  go_simp
  refine hK.out _ _ ?_ (fun hHeld => ?_)
  · trivial
  clear HHeld; have HHeld := Lib.hid hHeld; clear hHeld
  clear hK K
  try simp only [Act.put, List.setIfInBounds_toArray, List.set_cons_zero, List.set_cons_succ]
  refine wpAnyH_ready (rs := [4]) (by kernel_rfl) (by simp) ?_
  refine AllReadyH.cons (o := { dst := some 43, op := Op.call { callee := Callee.builtin Builtin.append, args := #[Operand.tmp 39, Operand.tmp 42], argTypes := #[26, 26] }, type := 26, pos := "law.go:58", after := #[{ on := 0, ground := Ground.data }, { on := 3, ground := Ground.data }], guard := none }) rfl (fun K hK => ?_) AllReadyH.nil
  refine RE.step_put EI _ rfl (.tmp 39) (.tmp 42) rfl (base := w2.heap.size) (some ⟨w2.heap.size, 0, none⟩) 0 0 [] (some a0) 0 cap [] (by simp [Act.eval, Act.put]) (by simp [Act.eval, Act.put]) (.inl ⟨rfl, rfl⟩) rfl (by omega) (by simp) rfl (by omega) (.inl rfl) ?_
  intro A1 c1 w3 r1 r2 r3
  have R1 : Hid (EI.Row w3 w2.heap.size A1 [] c1) := Lib.hid r1
  have B3 : Hid (Below w.heap.size w w3) := Lib.hid (HW3.out.trans (RE.Row.below (E := EI) (W := w2) (base := w2.heap.size) (l := []) r2 (.inl ⟨rfl, rfl⟩) B2.out.size HW3.out.size))
  have Z3 : Hid (w2.heap.size ≤ w3.heap.size) := Lib.hid (Nat.le_trans (by simp) r2.size)
  clear r1 r2 r3
  refine hK.out _ _ ?_ (fun hHeld => ?_)
  · trivial
  clear HHeld; have HHeld := Lib.hid hHeld; clear hHeld
  clear hK K
  try simp only [Act.put, List.setIfInBounds_toArray, List.set_cons_zero, List.set_cons_succ]
  refine wpAnyH_ready (rs := [8]) (by kernel_rfl) (by simp) ?_
  refine AllReadyH.cons (o := { dst := some 47, op := Op.call { callee := Callee.builtin Builtin.append, args := #[Operand.tmp 43, Operand.tmp 46], argTypes := #[26, 26] }, type := 26, pos := "law.go:58", after := #[{ on := 4, ground := Ground.data }, { on := 7, ground := Ground.data }, { on := 4, ground := Ground.chain }], guard := none }) rfl (fun K hK => ?_) AllReadyH.nil
  refine RE.step_put EI _ rfl (.tmp 43) (.tmp 46) rfl (base := w2.heap.size) A1 0 c1 [] (some a0) 0 cap xs (by simp [Act.eval, Act.put]) (by simp [Act.eval, Act.put]) R1.out rfl (by omega) Z3.out HTL.out (by omega) (HA.out _ B3.out) ?_
  intro A2 c2 w4 r1 r2 r3
  have R2 := Lib.hid r1.rd
  have B4 : Hid (Below w.heap.size w w4) := Lib.hid (B3.out.trans (RE.Row.below r2 R1.out B2.out.size B3.out.size))
  clear r1 r2 r3
  refine hK.out _ _ ?_ (fun hHeld => ?_)
  · trivial
  clear HHeld; have HHeld := Lib.hid hHeld; clear hHeld
  clear hK K
  try simp only [Act.put, List.setIfInBounds_toArray, List.set_cons_zero, List.set_cons_succ]
  refine wpAnyH_ready (rs := [9]) (by kernel_rfl) (by simp) ?_
  refine AllReadyH.cons (o := { dst := some 48, op := Op.call { callee := Callee.value (Operand.func 9), args := #[Operand.tmp 47], argTypes := #[26] }, type := 27, pos := "law.go:58", after := #[{ on := 8, ground := Ground.data }, { on := 8, ground := Ground.chain }], guard := none }) rfl (fun K hK => ?_) AllReadyH.nil
  go_simp
  go_at_call 9; ((with_reducible refine (S3.out _ _ _ R2.out).mono ?_); rintro e w5 ⟨rfl, b5⟩; have B5 := Lib.hid (bel_trans B4.out b5); clear b5)
  refine hK.out _ _ ?_ (fun hHeld => ?_)
  · trivial
  clear HHeld; have HHeld := Lib.hid hHeld; clear hHeld
  clear hK K
  try simp only [Act.put, List.setIfInBounds_toArray, List.set_cons_zero, List.set_cons_succ]
  refine wpAnyH_take (i := 10) (oi := { dst := some 38, op := Op.move (Operand.tmp 48), type := 27, pos := "law.go:58", after := #[{ on := 9, ground := Ground.data }], guard := none }) (v := ?_) rfl (by kernel_rfl) (by kernel_rfl) (by kernel_rfl) (fun _ _ _ h => h) (Or.inl ⟨by rfl, ?_⟩) HHeld.out ?_
  rotate_left
  · intro w hSw; clear hSw; go_simp; try with_reducible rfl
  try simp only [Act.put, List.setIfInBounds_toArray, List.set_cons_zero, List.set_cons_succ]
  refine wpAnyH_take (i := 11) (oi := { dst := some 49, op := Op.extract (Operand.tmp 38) 0, type := 3, pos := "law.go:58", after := #[{ on := 10, ground := Ground.data }], guard := none }) (v := ?_) rfl (by kernel_rfl) (by kernel_rfl) (by kernel_rfl) (fun _ _ _ h => h) (Or.inl ⟨by rfl, ?_⟩) HHeld.out ?_
  rotate_left
  · intro w hSw; clear hSw; go_simp; try with_reducible rfl
  try simp only [Act.put, List.setIfInBounds_toArray, List.set_cons_zero, List.set_cons_succ]
  refine wpAnyH_take (i := 12) (oi := { dst := some 50, op := Op.extract (Operand.tmp 38) 1, type := 3, pos := "law.go:58", after := #[{ on := 10, ground := Ground.data }, { on := 14, ground := Ground.gcOnly Departure.lateStores }], guard := none }) (v := ?_) rfl (by kernel_rfl) (by kernel_rfl) (by kernel_rfl) (fun _ _ _ h => h) (Or.inl ⟨by rfl, ?_⟩) HHeld.out ?_
  rotate_left
  · intro w hSw; clear hSw; go_simp; try with_reducible rfl
  try simp only [Act.put, List.setIfInBounds_toArray, List.set_cons_zero, List.set_cons_succ]
  refine wpAnyH_take (i := 13) (oi := { dst := some 51, op := Op.extract (Operand.tmp 38) 2, type := 3, pos := "law.go:58", after := #[{ on := 10, ground := Ground.data }, { on := 15, ground := Ground.gcOnly Departure.lateStores }], guard := none }) (v := ?_) rfl (by kernel_rfl) (by kernel_rfl) (by kernel_rfl) (fun _ _ _ h => h) (Or.inl ⟨by rfl, ?_⟩) HHeld.out ?_
  rotate_left
  · intro w hSw; clear hSw; go_simp; try with_reducible rfl
  try simp only [Act.put, List.setIfInBounds_toArray, List.set_cons_zero, List.set_cons_succ]
  refine wpAnyH_take (i := 14) (oi := { dst := some 12, op := Op.assign (Operand.tmp 49), type := 3, pos := "law.go:58", after := #[{ on := 11, ground := Ground.data }, { on := 9, ground := Ground.chain }, { on := 0, ground := Ground.phase }, { on := 1, ground := Ground.phase }, { on := 2, ground := Ground.phase }, { on := 3, ground := Ground.phase }, { on := 4, ground := Ground.phase }, { on := 5, ground := Ground.phase }, { on := 6, ground := Ground.phase }, { on := 7, ground := Ground.phase }, { on := 8, ground := Ground.phase }, { on := 9, ground := Ground.phase }, { on := 10, ground := Ground.phase }, { on := 11, ground := Ground.phase }, { on := 12, ground := Ground.textOnly Departure.lateStores }, { on := 13, ground := Ground.textOnly Departure.lateStores }], guard := none }) (v := ?_) rfl (by kernel_rfl) (by kernel_rfl) (by kernel_rfl) (fun _ _ _ h => h) (Or.inl ⟨by rfl, ?_⟩) HHeld.out ?_
  rotate_left
  · intro w hSw; clear hSw; go_simp; try with_reducible rfl
  try simp only [Act.put, List.setIfInBounds_toArray, List.set_cons_zero, List.set_cons_succ]
  refine wpAnyH_take (i := 15) (oi := { dst := some 13, op := Op.assign (Operand.tmp 50), type := 3, pos := "law.go:58", after := #[{ on := 12, ground := Ground.data }, { on := 14, ground := Ground.chain }, { on := 0, ground := Ground.phase }, { on := 1, ground := Ground.phase }, { on := 2, ground := Ground.phase }, { on := 3, ground := Ground.phase }, { on := 4, ground := Ground.phase }, { on := 5, ground := Ground.phase }, { on := 6, ground := Ground.phase }, { on := 7, ground := Ground.phase }, { on := 8, ground := Ground.phase }, { on := 9, ground := Ground.phase }, { on := 10, ground := Ground.phase }, { on := 11, ground := Ground.phase }, { on := 12, ground := Ground.phase }, { on := 13, ground := Ground.textOnly Departure.lateStores }, { on := 14, ground := Ground.phase }], guard := none }) (v := ?_) rfl (by kernel_rfl) (by kernel_rfl) (by kernel_rfl) (fun _ _ _ h => h) (Or.inl ⟨by rfl, ?_⟩) HHeld.out ?_
  rotate_left
  · intro w hSw; clear hSw; go_simp; try with_reducible rfl
  try simp only [Act.put, List.setIfInBounds_toArray, List.set_cons_zero, List.set_cons_succ]
  refine wpAnyH_take (i := 16) (oi := { dst := some 14, op := Op.assign (Operand.tmp 51), type := 3, pos := "law.go:58", after := #[{ on := 13, ground := Ground.data }, { on := 15, ground := Ground.chain }, { on := 0, ground := Ground.phase }, { on := 1, ground := Ground.phase }, { on := 2, ground := Ground.phase }, { on := 3, ground := Ground.phase }, { on := 4, ground := Ground.phase }, { on := 5, ground := Ground.phase }, { on := 6, ground := Ground.phase }, { on := 7, ground := Ground.phase }, { on := 8, ground := Ground.phase }, { on := 9, ground := Ground.phase }, { on := 10, ground := Ground.phase }, { on := 11, ground := Ground.phase }, { on := 12, ground := Ground.phase }, { on := 13, ground := Ground.phase }, { on := 14, ground := Ground.phase }, { on := 15, ground := Ground.phase }], guard := none }) (v := ?_) rfl (by kernel_rfl) (by kernel_rfl) (by kernel_rfl) (fun _ _ _ h => h) (Or.inl ⟨by rfl, ?_⟩) HHeld.out ?_
  rotate_left
  · intro w hSw; clear hSw; go_simp; try with_reducible rfl
  try simp only [Act.put, List.setIfInBounds_toArray, List.set_cons_zero, List.set_cons_succ]
  refine wpAnyH_done (by kernel_rfl) ?_ _
  go_wp2_with (go_at_call 8; ((with_reducible refine (live_true _).mono ?_); rintro e w6 ⟨rfl, b6⟩; have B6 := Lib.hid (bel_trans B5.out b6); clear b6))
  go_ret
  exact ⟨rfl, B6.out⟩
end Go.Proofs.Ytniffjjkjgfacaa
