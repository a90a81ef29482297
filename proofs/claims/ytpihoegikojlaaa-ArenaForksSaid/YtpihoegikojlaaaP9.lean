/- Fork. -/
import Derived.Test.YtpihoegikojlaaaS8
namespace Go.Proofs.Ytpihoegikojlaaa
set_option linter.unusedSimpArgs false
open Go.RowKit Go.Maps
set_option linter.unusedVariables false
variable {F : Nat → Prop}

/-- A fork. -/
def ForkPost (w : World) (b : AB) (e : Ending) (w' : World) : Prop := ∃ N' A' G' c' d', e = .returned (.pointer (some ⟨N', 0, none⟩)) ∧ PA w' w.heap.size N' A' G' c' d' b ∧ Below w.heap.size w w'
set_option maxRecDepth 4000 in
set_option maxHeartbeats 2000000 in
theorem pfork {w : World} {lo N : Nat} {A G : Option Addr} {c d : Nat} {b : AB} (h : PA w lo N A G c d b) (iv : IV b) : Calls Try.prog 16 #[.pointer (some ⟨N, 0, none⟩)] w (ForkPost w b) := by
  obtain ⟨pl, hp, hq⟩ := h.pl
  have ht := iv.top60
  have hk := iv.bk60
  have B0 := Lib.hid (drew_bel w)
  have C33 := Lib.hid (own_place (own_bel hp B0.out) h.d4 (by omega))
  have C35 : Hid (∀ W, Below w.heap.size w W → Calls Try.prog 35 #[.slice G b.bk.length d] W (OwnPost W b.bk)) := Lib.hid (fun W hW => own_any G b.bk.length d b.bk W rfl (by omega) ((h.gs.bel hW).rd))
  have K0 := Lib.hid h.c0
  have K1 := Lib.hid h.c1
  have K2 := Lib.hid h.c2
  have HQ := Lib.hid hq
  clear h iv hp hq
  go_enter Try.func16, Try.ntmps16
  go_wp2_with fail
  refine wp_region_held_drew (S := (fun V => V.cell? ⟨N, 0, none⟩ = some (.int .i64 b.most) ∧ V.cell? ⟨N, 1, none⟩ = some (.slice A b.top c) ∧ V.cell? ⟨N, 2, none⟩ = some (.slice G b.bk.length d))) (by kernel_rfl) ?_ (fun hHeld => ?_)
  · exact ⟨K0.out, K1.out, K2.out⟩
  refine wpAnyH_take (i := 0) (oi := { dst := some 5, op := Op.move (Operand.tmp 0), type := 23, pos := "arena.go:161", after := #[], guard := none }) (v := ?_) rfl (by kernel_rfl) (by kernel_rfl) (by kernel_rfl) (fun _ _ _ h => h) (Or.inl ⟨by rfl, ?_⟩) hHeld ?_
  rotate_left
  · intro w hSw; clear hSw; go_simp; try with_reducible rfl
  try simp only [Act.put, List.setIfInBounds_toArray, List.set_cons_zero, List.set_cons_succ]
  refine wpAnyH_take (i := 1) (oi := { dst := some 6, op := Op.nilCheck (Operand.tmp 5), type := 0, pos := "arena.go:161", after := #[{ on := 0, ground := Ground.data }], guard := none }) (v := ?_) rfl (by kernel_rfl) (by kernel_rfl) (by kernel_rfl) (fun _ _ _ h => h) (Or.inl ⟨by rfl, ?_⟩) hHeld ?_
  rotate_left
  · intro w hSw; clear hSw; go_simp; try with_reducible rfl
  try simp only [Act.put, List.setIfInBounds_toArray, List.set_cons_zero, List.set_cons_succ]
  refine wpAnyH_take (i := 2) (oi := { dst := some 7, op := Op.fieldAddr 61 (Operand.tmp 6) 0, type := 0, pos := "arena.go:161", after := #[{ on := 1, ground := Ground.data }], guard := none }) (v := ?_) rfl (by kernel_rfl) (by kernel_rfl) (by kernel_rfl) (fun _ _ _ h => h) (Or.inl ⟨by rfl, ?_⟩) hHeld ?_
  rotate_left
  · intro w hSw; clear hSw; go_simp; try with_reducible rfl
  try simp only [Act.put, List.setIfInBounds_toArray, List.set_cons_zero, List.set_cons_succ]
  refine wpAnyH_take (i := 3) (oi := { dst := some 8, op := Op.load 3 (Operand.tmp 7), type := 3, pos := "arena.go:161", after := #[{ on := 2, ground := Ground.data }], guard := none }) (v := Value.int .i64 b.most) rfl (by kernel_rfl) (by kernel_rfl) (by kernel_rfl) (fun _ _ _ h => h) (Or.inl ⟨by rfl, ?_⟩) hHeld ?_
  · intro V hV; have hc0 := hV.1; clear hV; go_simp
  try simp only [Act.put, List.setIfInBounds_toArray, List.set_cons_zero, List.set_cons_succ]
  refine wpAnyH_take (i := 4) (oi := { dst := some 9, op := Op.move (Operand.tmp 0), type := 23, pos := "arena.go:161", after := #[], guard := none }) (v := ?_) rfl (by kernel_rfl) (by kernel_rfl) (by kernel_rfl) (fun _ _ _ h => h) (Or.inl ⟨by rfl, ?_⟩) hHeld ?_
  rotate_left
  · intro w hSw; clear hSw; go_simp; try with_reducible rfl
  try simp only [Act.put, List.setIfInBounds_toArray, List.set_cons_zero, List.set_cons_succ]
  refine wpAnyH_take (i := 5) (oi := { dst := some 10, op := Op.nilCheck (Operand.tmp 9), type := 0, pos := "arena.go:161", after := #[{ on := 4, ground := Ground.data }], guard := none }) (v := ?_) rfl (by kernel_rfl) (by kernel_rfl) (by kernel_rfl) (fun _ _ _ h => h) (Or.inl ⟨by rfl, ?_⟩) hHeld ?_
  rotate_left
  · intro w hSw; clear hSw; go_simp; try with_reducible rfl
  try simp only [Act.put, List.setIfInBounds_toArray, List.set_cons_zero, List.set_cons_succ]
  refine wpAnyH_take (i := 6) (oi := { dst := some 11, op := Op.fieldAddr 61 (Operand.tmp 10) 1, type := 0, pos := "arena.go:161", after := #[{ on := 5, ground := Ground.data }], guard := none }) (v := ?_) rfl (by kernel_rfl) (by kernel_rfl) (by kernel_rfl) (fun _ _ _ h => h) (Or.inl ⟨by rfl, ?_⟩) hHeld ?_
  rotate_left
  · intro w hSw; clear hSw; go_simp; try with_reducible rfl
  try simp only [Act.put, List.setIfInBounds_toArray, List.set_cons_zero, List.set_cons_succ]
  refine wpAnyH_take (i := 7) (oi := { dst := some 12, op := Op.load 59 (Operand.tmp 11), type := 59, pos := "arena.go:161", after := #[{ on := 6, ground := Ground.data }], guard := none }) (v := Value.slice A b.top c) rfl (by kernel_rfl) (by kernel_rfl) (by kernel_rfl) (fun _ _ _ h => h) (Or.inl ⟨by rfl, ?_⟩) hHeld ?_
  · intro V hV; have hc0 := hV.2.1; clear hV; go_simp
  try simp only [Act.put, List.setIfInBounds_toArray, List.set_cons_zero, List.set_cons_succ]
  refine wpAnyH_take (i := 9) (oi := { dst := some 14, op := Op.move (Operand.tmp 0), type := 23, pos := "arena.go:161", after := #[], guard := none }) (v := ?_) rfl (by kernel_rfl) (by kernel_rfl) (by kernel_rfl) (fun _ _ _ h => h) (Or.inl ⟨by rfl, ?_⟩) hHeld ?_
  rotate_left
  · intro w hSw; clear hSw; go_simp; try with_reducible rfl
  try simp only [Act.put, List.setIfInBounds_toArray, List.set_cons_zero, List.set_cons_succ]
  refine wpAnyH_take (i := 10) (oi := { dst := some 15, op := Op.nilCheck (Operand.tmp 14), type := 0, pos := "arena.go:161", after := #[{ on := 9, ground := Ground.data }], guard := none }) (v := ?_) rfl (by kernel_rfl) (by kernel_rfl) (by kernel_rfl) (fun _ _ _ h => h) (Or.inl ⟨by rfl, ?_⟩) hHeld ?_
  rotate_left
  · intro w hSw; clear hSw; go_simp; try with_reducible rfl
  try simp only [Act.put, List.setIfInBounds_toArray, List.set_cons_zero, List.set_cons_succ]
  refine wpAnyH_take (i := 11) (oi := { dst := some 16, op := Op.fieldAddr 61 (Operand.tmp 15) 2, type := 0, pos := "arena.go:161", after := #[{ on := 10, ground := Ground.data }], guard := none }) (v := ?_) rfl (by kernel_rfl) (by kernel_rfl) (by kernel_rfl) (fun _ _ _ h => h) (Or.inl ⟨by rfl, ?_⟩) hHeld ?_
  rotate_left
  · intro w hSw; clear hSw; go_simp; try with_reducible rfl
  try simp only [Act.put, List.setIfInBounds_toArray, List.set_cons_zero, List.set_cons_succ]
  refine wpAnyH_take (i := 12) (oi := { dst := some 17, op := Op.load 31 (Operand.tmp 16), type := 31, pos := "arena.go:161", after := #[{ on := 11, ground := Ground.data }], guard := none }) (v := Value.slice G b.bk.length d) rfl (by kernel_rfl) (by kernel_rfl) (by kernel_rfl) (fun _ _ _ h => h) (Or.inl ⟨by rfl, ?_⟩) hHeld ?_
  · intro V hV; have hc0 := hV.2.2; clear hV; go_simp
  try simp only [Act.put, List.setIfInBounds_toArray, List.set_cons_zero, List.set_cons_succ]
  refine wpAnyH_ready (rs := [8]) (by kernel_rfl) (by simp) ?_
  refine AllReadyH.cons (o := { dst := some 13, op := Op.call { callee := Callee.value (Operand.func 33), args := #[Operand.tmp 12], argTypes := #[59] }, type := 59, pos := "arena.go:161", after := #[{ on := 7, ground := Ground.data }], guard := none }) rfl (fun K hK => ?_) AllReadyH.nil
  go_simp
  go_at_call 33; ((with_reducible refine C33.out.mono ?_); rintro e w1 ⟨A1, c1, rfl, r1, o1, _, b1⟩; have R1 := Lib.hid r1; have O1 := Lib.hid o1; have B1 := Lib.hid b1; have C35 := Lib.hid (C35.out w1 (B0.out.trans (b1.mono B0.out.size))); clear r1 o1 b1)
  try go_wp2_with fail
  refine hK.out _ _ ?_ (fun hHeld => ?_)
  · exact ⟨bel_later (B0.out.trans (B1.out.mono B0.out.size)) K0.out, bel_later (B0.out.trans (B1.out.mono B0.out.size)) K1.out, bel_later (B0.out.trans (B1.out.mono B0.out.size)) K2.out⟩
  clear hK K
  try simp only [Act.put, List.setIfInBounds_toArray, List.set_cons_zero, List.set_cons_succ]
  refine wpAnyH_ready (rs := [13]) (by kernel_rfl) (by simp) ?_
  refine AllReadyH.cons (o := { dst := some 18, op := Op.call { callee := Callee.value (Operand.func 35), args := #[Operand.tmp 17], argTypes := #[31] }, type := 31, pos := "arena.go:161", after := #[{ on := 12, ground := Ground.data }, { on := 8, ground := Ground.chain }], guard := none }) rfl (fun K hK => ?_) AllReadyH.nil
  go_simp
  go_at_call 35; ((with_reducible refine C35.out.mono ?_); rintro e w2 ⟨G2, d2, rfl, r2, b2⟩; have R2 := Lib.hid r2; have B2 := Lib.hid b2; clear r2 b2)
  try go_wp2_with fail
  refine hK.out _ _ ?_ (fun hHeld => ?_)
  · exact ⟨bel_later ((B0.out.trans (B1.out.mono B0.out.size)).trans (B2.out.mono (Nat.le_trans B0.out.size B1.out.size))) K0.out, bel_later ((B0.out.trans (B1.out.mono B0.out.size)).trans (B2.out.mono (Nat.le_trans B0.out.size B1.out.size))) K1.out, bel_later ((B0.out.trans (B1.out.mono B0.out.size)).trans (B2.out.mono (Nat.le_trans B0.out.size B1.out.size))) K2.out⟩
  clear hK K
  try simp only [Act.put, List.setIfInBounds_toArray, List.set_cons_zero, List.set_cons_succ]
  refine wpAnyH_take (i := 14) (oi := { dst := some 19, op := Op.build 61 #[(0, Operand.tmp 8), (1, Operand.tmp 13), (2, Operand.tmp 18)], type := 61, pos := "arena.go:161", after := #[{ on := 3, ground := Ground.data }, { on := 8, ground := Ground.data }, { on := 13, ground := Ground.data }], guard := none }) (v := ?_) rfl (by kernel_rfl) (by kernel_rfl) (by kernel_rfl) (fun _ _ _ h => h) (Or.inl ⟨by rfl, ?_⟩) hHeld ?_
  rotate_left
  · intro w hSw; clear hSw; go_simp; try with_reducible rfl
  try simp only [Act.put, List.setIfInBounds_toArray, List.set_cons_zero, List.set_cons_succ]
  refine wpAnyH_ready (rs := [15]) (by kernel_rfl) (by simp) ?_
  refine AllReadyH.cons (o := { dst := some 20, op := Op.box 61 (Operand.tmp 19), type := 23, pos := "arena.go:161", after := #[{ on := 14, ground := Ground.data }], guard := none }) rfl (fun K hK => ?_) AllReadyH.nil
  go_simp
  refine hK.out _ _ ?_ (fun hHeld => ?_)
  · exact ⟨bel_later (bel_alloc ((B0.out.trans (B1.out.mono B0.out.size)).trans (B2.out.mono (Nat.le_trans B0.out.size B1.out.size))) _) K0.out, bel_later (bel_alloc ((B0.out.trans (B1.out.mono B0.out.size)).trans (B2.out.mono (Nat.le_trans B0.out.size B1.out.size))) _) K1.out, bel_later (bel_alloc ((B0.out.trans (B1.out.mono B0.out.size)).trans (B2.out.mono (Nat.le_trans B0.out.size B1.out.size))) _) K2.out⟩
  clear hK K
  try simp only [Act.put, List.setIfInBounds_toArray, List.set_cons_zero, List.set_cons_succ]
  refine wpAnyH_take (i := 16) (oi := { dst := some 2, op := Op.assign (Operand.tmp 20), type := 23, pos := "arena.go:161", after := #[{ on := 15, ground := Ground.data }, { on := 13, ground := Ground.chain }, { on := 0, ground := Ground.phase }, { on := 1, ground := Ground.phase }, { on := 2, ground := Ground.phase }, { on := 3, ground := Ground.phase }, { on := 4, ground := Ground.phase }, { on := 5, ground := Ground.phase }, { on := 6, ground := Ground.phase }, { on := 7, ground := Ground.phase }, { on := 8, ground := Ground.phase }, { on := 9, ground := Ground.phase }, { on := 10, ground := Ground.phase }, { on := 11, ground := Ground.phase }, { on := 12, ground := Ground.phase }, { on := 13, ground := Ground.phase }, { on := 14, ground := Ground.phase }, { on := 15, ground := Ground.phase }], guard := none }) (v := ?_) rfl (by kernel_rfl) (by kernel_rfl) (by kernel_rfl) (fun _ _ _ h => h) (Or.inl ⟨by rfl, ?_⟩) hHeld ?_
  rotate_left
  · intro w hSw; clear hSw; go_simp; try with_reducible rfl
  try simp only [Act.put, List.setIfInBounds_toArray, List.set_cons_zero, List.set_cons_succ]
  refine wpAnyH_done (by kernel_rfl) ?_ _
  go_wp2_with fail
  have hs0 : w.drew.heap.size = w.heap.size := rfl
  have s1 := B1.out.size
  have s2 := B2.out.size
  have bF : Below w.heap.size w (w2.alloc (.cells #[.int .i64 b.most, .slice A1 b.top c1, .slice G2 b.bk.length d2] 61)) := bel_alloc (((B0.out.trans (B1.out.mono B0.out.size)).trans (B2.out.mono (Nat.le_trans B0.out.size B1.out.size)))) _
  have bN : Below w2.heap.size w2 (w2.alloc (.cells #[.int .i64 b.most, .slice A1 b.top c1, .slice G2 b.bk.length d2] 61)) := bel_alloc (Below.refl _ _) _
  have hlt : ∀ g, A1.map (·.block) = some g → w.heap.size ≤ g ∧ g < w1.heap.size := fun g hg => R1.out.lt g (by rw [ob_eq]; exact hg)
  refine bodyPost_ret (v := .pointer (some ⟨w2.heap.size, 0, none⟩)) (by simp [results, Try.results16, go_sem]) rfl ⟨w2.heap.size, A1, G2, c1, d2, rfl, ⟨⟨by omega, by simp⟩, by simp [go_sem], by simp [go_sem], by simp [go_sem], fun j => frozen_of_row _ _ _ _ _ (heap_alloc_new w2 _), ⟨pl, own_bel (own_bel R1.out B2.out) bN, HQ.out⟩, (R2.out.bel bN).base (by omega), fun e => ?_, fun e => ?_, fun g hg hf => ?_, O1.out⟩, bF⟩
  · have := (hlt _ e).2; omega
  · have := (R2.out.fp_lt e).2; omega
  · have h1 := (hlt _ hg).2
    have h2 := (R2.out.fp_lt hf).1
    omega
end Go.Proofs.Ytpihoegikojlaaa
