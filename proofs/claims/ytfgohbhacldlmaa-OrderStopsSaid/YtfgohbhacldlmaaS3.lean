/- A deed on both: a look. -/
import Derived.Test.YtfgohbhacldlmaaS1
namespace Go.Proofs.Ytfgohbhacldlmaa
set_option linter.unusedSimpArgs false
open Go.RowKit
set_option linter.unusedVariables false

theorem from_row (N : Nat) (L : PL) (k : ByteArray) (w : World) (h : MapIs w N L) (hs : Srt ltS L) (hn : L.length ≤ 980) : Calls Try.prog 19 #[.pointer (some ⟨N, 0, none⟩), .string k] w (RowPost w (fromL k L)) := by
  have hl : (fromL k L).length ≤ 1000 := by rw [← from_eq hs]; exact Nat.le_trans (List.length_filter_le _ _) (by omega)
  exact from_in _ k (fromL k L) hl w (fun W hW => (from_any N L k W (h.later hW) hs (by omega)))
set_option maxHeartbeats 4000000 in
set_option maxRecDepth 100000 in
theorem look_neg (N : Nat) (A : Option Addr) (c : Nat) (L : PL) (d : Int) (k t : ByteArray) (nn : Int) (w : World) (hm : MapIs w N L) (hs : Srt ltS L) (hn : L.length ≤ 980) (hr : RdP w A L) (hd0 : d ≠ 0) (hd1 : d ≠ 1) (hd2 : d ≠ 2) (h0 : nn < 0) :
    Calls Try.prog 10 #[.pointer (some ⟨N, 0, none⟩), .slice A L.length c, .agg #[.int .i64 d, .string k, .string t, .int .i64 nn]] w (fun e w' => e = .returned (.tuple #[.slice A L.length c, .bool true]) ∧ Below w.heap.size w w') := by
  obtain ⟨c0, c1, c2, c3⟩ := d_cells w d k t nn
  have hB := bel_alloc (Below.refl w.heap.size w) (dObj d k t nn)
  obtain ⟨gv, bb, hg, hb⟩ := get_two k L
  have e0 : (d == 0) = false := by simpa using hd0
  have e1 : (d == 1) = false := by simpa using hd1
  have e2 : (d == 2) = false := by simpa using hd2
  have hat : atV L nn = .tuple #[.string ⟨#[]⟩, .int .i64 0, .bool false] := by unfold atV; rw [if_neg (by omega)]
  have hm0 : MapIs (w.alloc (dObj d k t nn)) N L := hm.later hB
  have hr0 : RdP (w.alloc (dObj d k t nn)) A L := Rd.later hr hB
  have GT : Hid (Calls Try.prog 30 #[.slice A L.length c, .string k] (w.alloc (dObj d k t nn)) fun e w' => e = .returned (.tuple #[.int .i64 gv, .bool (!bb)]) ∧ (w.alloc (dObj d k t nn)) = w') := Lib.hid (by
    have := rget_any A L.length c L k (w.alloc (dObj d k t nn)) rfl (by omega) hr0
    rw [rget_get, hg] at this; exact this)
  have MG : Hid (Calls Try.prog 26 #[.pointer (some ⟨N, 0, none⟩), .string k] (w.alloc (dObj d k t nn)) fun e w' => e = .returned (.tuple #[.int .i64 gv, .bool (!bb)]) ∧ Below (w.alloc (dObj d k t nn)).heap.size (w.alloc (dObj d k t nn)) w') := Lib.hid (by
    have := get_any N L k (w.alloc (dObj d k t nn)) hm0 hs
    rw [hg] at this; exact this)
  have MA : Hid (∀ W, Below (w.alloc (dObj d k t nn)).heap.size (w.alloc (dObj d k t nn)) W → Calls Try.prog 16 #[.pointer (some ⟨N, 0, none⟩), .int .i64 nn] W fun e w' => e = .returned (.tuple #[.string ⟨#[]⟩, .int .i64 0, .bool false]) ∧ Below (w.alloc (dObj d k t nn)).heap.size (w.alloc (dObj d k t nn)) w') := Lib.hid (fun W hW => by
    have := at_any N L nn W (hm0.later hW) (by omega)
    rw [hat] at this
    exact this.mono (fun e w' h => ⟨h.1, bel_trans hW h.2⟩))
  have KP0 : Hid (∀ W, Below (w.alloc (dObj d k t nn)).heap.size (w.alloc (dObj d k t nn)) W → W.cell? ⟨w.heap.size, 1, none⟩ = some (.string k) ∧ W.cell? ⟨w.heap.size, 3, none⟩ = some (.int .i64 nn) ∧ MapIs W N L ∧ RdP W A L) := Lib.hid (fun W hW => ⟨bel_later hW c1, bel_later hW c3, hm0.later hW, Rd.later hr0 hW⟩)
  have HB := Lib.hid hB
  have HS := Lib.hid hs
  have HN := Lib.hid hn
  clear hm hr hs hg hb hat hm0 hr0 hd0 hd1 hd2
  clear hB
  go_enter Try.func10, Try.ntmps10
  go_wp2_with (first
    | (go_at_call 30; (with_reducible refine GT.out.mono ?_); rintro e w1 ⟨rfl, rfl⟩; clear GT; generalize w.alloc (dObj d k t nn) = V0 at *)
    | (go_at_call 26; (with_reducible refine MG.out.mono ?_); rintro e w2 ⟨rfl, b2⟩; have B2 := Lib.hid b2; have c4 := (KP0.out _ b2).2.1; clear b2)
    | (go_at_call 16; (with_reducible refine (MA.out _ B2.out).mono ?_); rintro e V ⟨rfl, b3⟩; have BV := Lib.hid b3; clear b3)
    | fail)
  have B0 : Hid (Below V.heap.size V V.drew) := Lib.hid (bel_dw (Below.refl _ _))
  have KP : Hid (∀ W, Below V.heap.size V W → W.cell? ⟨w.heap.size, 1, none⟩ = some (.string k) ∧ W.cell? ⟨w.heap.size, 3, none⟩ = some (.int .i64 nn) ∧ MapIs W N L ∧ RdP W A L) := Lib.hid (fun W hW => KP0.out W (bel_trans BV.out hW))
  have PLC : Hid (∀ W, Below V.heap.size V W → Calls Try.prog 17 #[.pointer (some ⟨N, 0, none⟩), .string k] W fun e w' => e = .returned (.int .i64 ((below ltS k L).length : Int)) ∧ Below V.heap.size V w') := Lib.hid (fun W hW => (place_any N L k W (KP.out W hW).2.2.1 HS.out (by have := HN.out; omega)).mono (fun e w' h => ⟨h.1, bel_trans hW h.2⟩))
  have RPL : Hid (∀ W, Below V.heap.size V W → Calls Try.prog 34 #[.slice A L.length c, .string k] W fun e w' => e = .returned (.int .i64 ((below ltS k L).length : Int)) ∧ Below V.heap.size V w') := Lib.hid (fun W hW => (rplace_any A L.length c L k W rfl (by have := HN.out; omega) (KP.out W hW).2.2.2).mono (fun e w' h => ⟨h.1, bel_trans hW h.2⟩))
  have FRM : Hid (∀ W, Below V.heap.size V W → Calls Try.prog 19 #[.pointer (some ⟨N, 0, none⟩), .string k] W fun e w' => ∃ A1 k1, e = .returned (.slice A1 (fromL k L).length k1) ∧ RdP w' A1 (fromL k L) ∧ Below V.heap.size V w') := Lib.hid (fun W hW => (from_row N L k W (KP.out W hW).2.2.1 HS.out HN.out).mono (fun e w' ⟨a, b, h1, h2, h3, _⟩ => ⟨a, b, h1, h2, bel_trans hW h3⟩))
  have RFR : Hid (∀ W, Below V.heap.size V W → Calls Try.prog 35 #[.slice A L.length c, .string k] W fun e w' => ∃ A1 k1, e = .returned (.slice A1 (fromL k L).length k1) ∧ RdP w' A1 (fromL k L) ∧ Below V.heap.size V w' ∧ Below W.heap.size W w') := Lib.hid (fun W hW => by
    have := rfrom_any A L.length c L k W rfl (by have := HN.out; omega) (KP.out W hW).2.2.2
    rw [from_eq HS.out] at this
    exact this.mono (fun e w' ⟨a, b, h1, h2, h3, _⟩ => ⟨some a, b, h1, h2, bel_trans hW h3, h3⟩))
  have SAM : Hid (∀ W A1 A2 k1 k2, Below V.heap.size V W → RdP W A1 (fromL k L) → RdP W A2 (fromL k L) → Calls Try.prog 13 #[.slice A1 (fromL k L).length k1, .slice A2 (fromL k L).length k2] W fun e w' => e = .returned (.bool true) ∧ Below V.heap.size V w') := Lib.hid (fun W A1 A2 k1 k2 hW h1 h2 => (same_yes A1 A2 (fromL k L).length k1 k2 (fromL k L) W rfl (by rw [← from_eq HS.out]; exact Nat.le_trans (List.length_filter_le _ _) (by have := HN.out; omega)) h1 h2).mono (fun e w' h => ⟨h.1, bel_trans hW h.2⟩))
  clear MG MA KP0 c0 c1 c2 c3 c4 e0 e1 e2
  refine wp_region_held_drew (S := (fun X => Below V.heap.size V X)) (by kernel_rfl) ?_ (fun hHeld => ?_)
  · exact B0.out
  refine wpAnyH_take (i := 0) (oi := { dst := some 90, op := Op.move (Operand.tmp 11), type := 3, pos := "law.go:64", after := #[], guard := none }) (v := ?_) rfl (by kernel_rfl) (by kernel_rfl) (by kernel_rfl) (fun _ _ _ h => h) (Or.inl ⟨by rfl, ?_⟩) hHeld ?_
  rotate_left
  · intro w hSw; clear hSw; go_simp; try with_reducible rfl
  try simp only [Act.put, List.setIfInBounds_toArray, List.set_cons_zero, List.set_cons_succ]
  refine wpAnyH_take (i := 1) (oi := { dst := some 91, op := Op.move (Operand.tmp 8), type := 3, pos := "law.go:64", after := #[], guard := none }) (v := ?_) rfl (by kernel_rfl) (by kernel_rfl) (by kernel_rfl) (fun _ _ _ h => h) (Or.inl ⟨by rfl, ?_⟩) hHeld ?_
  rotate_left
  · intro w hSw; clear hSw; go_simp; try with_reducible rfl
  try simp only [Act.put, List.setIfInBounds_toArray, List.set_cons_zero, List.set_cons_succ]
  refine wpAnyH_take (i := 2) (oi := { dst := some 92, op := Op.binOp BinOp.neq 3 (Operand.tmp 90) (Operand.tmp 91) 3, type := 4, pos := "law.go:64", after := #[{ on := 0, ground := Ground.data }, { on := 1, ground := Ground.data }], guard := none }) (v := ?_) rfl (by kernel_rfl) (by kernel_rfl) (by kernel_rfl) (fun _ _ _ h => h) (Or.inl ⟨by rfl, ?_⟩) hHeld ?_
  rotate_left
  · intro w hSw; clear hSw; go_simp; try with_reducible rfl
  try simp only [Act.put, List.setIfInBounds_toArray, List.set_cons_zero, List.set_cons_succ]
  refine wpAnyH_take (i := 3) (oi := { dst := some 93, op := Op.move (Operand.tmp 92), type := 4, pos := "law.go:64", after := #[{ on := 2, ground := Ground.data }], guard := none }) (v := ?_) rfl (by kernel_rfl) (by kernel_rfl) (by kernel_rfl) (fun _ _ _ h => h) (Or.inl ⟨by rfl, ?_⟩) hHeld ?_
  rotate_left
  · intro w hSw; clear hSw; go_simp; try with_reducible rfl
  try simp only [Act.put, List.setIfInBounds_toArray, List.set_cons_zero, List.set_cons_succ]
  refine wpAnyH_take (i := 4) (oi := { dst := some 94, op := Op.move (Operand.tmp 12), type := 4, pos := "law.go:64", after := #[{ on := 3, ground := Ground.guard }], guard := some (3, false) }) (v := ?_) rfl (by kernel_rfl) (by kernel_rfl) (by kernel_rfl) (fun _ _ _ h => h) (Or.inl ⟨by rfl, ?_⟩) hHeld ?_
  rotate_left
  · intro w hSw; clear hSw; go_simp; try with_reducible rfl
  try simp only [Act.put, List.setIfInBounds_toArray, List.set_cons_zero, List.set_cons_succ]
  refine wpAnyH_take (i := 5) (oi := { dst := some 95, op := Op.move (Operand.tmp 9), type := 4, pos := "law.go:64", after := #[{ on := 3, ground := Ground.guard }], guard := some (3, false) }) (v := ?_) rfl (by kernel_rfl) (by kernel_rfl) (by kernel_rfl) (fun _ _ _ h => h) (Or.inl ⟨by rfl, ?_⟩) hHeld ?_
  rotate_left
  · intro w hSw; clear hSw; go_simp; try with_reducible rfl
  try simp only [Act.put, List.setIfInBounds_toArray, List.set_cons_zero, List.set_cons_succ]
  refine wpAnyH_take (i := 6) (oi := { dst := some 96, op := Op.binOp BinOp.neq 4 (Operand.tmp 94) (Operand.tmp 95) 4, type := 4, pos := "law.go:64", after := #[{ on := 4, ground := Ground.data }, { on := 5, ground := Ground.data }, { on := 3, ground := Ground.guard }], guard := some (3, false) }) (v := ?_) rfl (by kernel_rfl) (by kernel_rfl) (by kernel_rfl) (fun _ _ _ h => h) (Or.inl ⟨by rfl, ?_⟩) hHeld ?_
  rotate_left
  · intro w hSw; clear hSw; go_simp; try with_reducible rfl
  try simp only [Act.put, List.setIfInBounds_toArray, List.set_cons_zero, List.set_cons_succ]
  refine wpAnyH_take (i := 7) (oi := { dst := some 97, op := Op.pick (Operand.tmp 93) (Operand.const (Value.bool true)) (Operand.tmp 96), type := 4, pos := "law.go:64", after := #[{ on := 3, ground := Ground.data }, { on := 6, ground := Ground.data }], guard := none }) (v := ?_) rfl (by kernel_rfl) (by kernel_rfl) (by kernel_rfl) (fun _ _ _ h => h) (Or.inl ⟨by rfl, ?_⟩) hHeld ?_
  rotate_left
  · intro w hSw; clear hSw; go_simp; try with_reducible rfl
  try simp only [Act.put, List.setIfInBounds_toArray, List.set_cons_zero, List.set_cons_succ]
  refine wpAnyH_take (i := 8) (oi := { dst := some 98, op := Op.move (Operand.tmp 97), type := 4, pos := "law.go:64", after := #[{ on := 7, ground := Ground.data }, { on := 3, ground := Ground.chain }], guard := none }) (v := ?_) rfl (by kernel_rfl) (by kernel_rfl) (by kernel_rfl) (fun _ _ _ h => h) (Or.inl ⟨by rfl, ?_⟩) hHeld ?_
  rotate_left
  · intro w hSw; clear hSw; go_simp; try with_reducible rfl
  try simp only [Act.put, List.setIfInBounds_toArray, List.set_cons_zero, List.set_cons_succ]
  refine wpAnyH_take (i := 9) (oi := { dst := some 99, op := Op.move (Operand.tmp 0), type := 23, pos := "law.go:64", after := #[{ on := 8, ground := Ground.guard }], guard := some (8, false) }) (v := ?_) rfl (by kernel_rfl) (by kernel_rfl) (by kernel_rfl) (fun _ _ _ h => h) (Or.inl ⟨by rfl, ?_⟩) hHeld ?_
  rotate_left
  · intro w hSw; clear hSw; go_simp; try with_reducible rfl
  try simp only [Act.put, List.setIfInBounds_toArray, List.set_cons_zero, List.set_cons_succ]
  refine wpAnyH_take (i := 10) (oi := { dst := some 100, op := Op.fieldAddr 29 (Operand.tmp 5) 1, type := 0, pos := "law.go:64", after := #[{ on := 8, ground := Ground.guard }], guard := some (8, false) }) (v := ?_) rfl (by kernel_rfl) (by kernel_rfl) (by kernel_rfl) (fun _ _ _ h => h) (Or.inl ⟨by rfl, ?_⟩) hHeld ?_
  rotate_left
  · intro w hSw; clear hSw; go_simp; try with_reducible rfl
  try simp only [Act.put, List.setIfInBounds_toArray, List.set_cons_zero, List.set_cons_succ]
  refine wpAnyH_take (i := 11) (oi := { dst := some 101, op := Op.load 9 (Operand.tmp 100), type := 9, pos := "law.go:64", after := #[{ on := 10, ground := Ground.data }, { on := 8, ground := Ground.guard }], guard := some (8, false) }) (v := .string k) rfl (by kernel_rfl) (by kernel_rfl) (by kernel_rfl) (fun _ _ _ h => h) (Or.inl ⟨by rfl, ?_⟩) hHeld ?_
  · intro V hV; have hc0 := (KP.out _ hV).1; clear hV; go_simp
  try simp only [Act.put, List.setIfInBounds_toArray, List.set_cons_zero, List.set_cons_succ]
  refine wpAnyH_take (i := 13) (oi := { dst := some 103, op := Op.move (Operand.tmp 1), type := 25, pos := "law.go:64", after := #[{ on := 8, ground := Ground.guard }], guard := some (8, false) }) (v := ?_) rfl (by kernel_rfl) (by kernel_rfl) (by kernel_rfl) (fun _ _ _ h => h) (Or.inl ⟨by rfl, ?_⟩) hHeld ?_
  rotate_left
  · intro w hSw; clear hSw; go_simp; try with_reducible rfl
  try simp only [Act.put, List.setIfInBounds_toArray, List.set_cons_zero, List.set_cons_succ]
  refine wpAnyH_take (i := 14) (oi := { dst := some 104, op := Op.fieldAddr 29 (Operand.tmp 5) 1, type := 0, pos := "law.go:64", after := #[{ on := 8, ground := Ground.guard }], guard := some (8, false) }) (v := ?_) rfl (by kernel_rfl) (by kernel_rfl) (by kernel_rfl) (fun _ _ _ h => h) (Or.inl ⟨by rfl, ?_⟩) hHeld ?_
  rotate_left
  · intro w hSw; clear hSw; go_simp; try with_reducible rfl
  try simp only [Act.put, List.setIfInBounds_toArray, List.set_cons_zero, List.set_cons_succ]
  refine wpAnyH_take (i := 15) (oi := { dst := some 105, op := Op.load 9 (Operand.tmp 104), type := 9, pos := "law.go:64", after := #[{ on := 14, ground := Ground.data }, { on := 8, ground := Ground.guard }], guard := some (8, false) }) (v := .string k) rfl (by kernel_rfl) (by kernel_rfl) (by kernel_rfl) (fun _ _ _ h => h) (Or.inl ⟨by rfl, ?_⟩) hHeld ?_
  · intro V hV; have hc0 := (KP.out _ hV).1; clear hV; go_simp
  try simp only [Act.put, List.setIfInBounds_toArray, List.set_cons_zero, List.set_cons_succ]
  refine wpAnyH_ready (rs := [12]) (by kernel_rfl) (by simp) ?_
  refine AllReadyH.cons (o := { dst := some 102, op := Op.call { callee := Callee.value (Operand.func 17), args := #[Operand.tmp 99, Operand.tmp 101], argTypes := #[23, 9] }, type := 3, pos := "law.go:64", after := #[{ on := 9, ground := Ground.data }, { on := 11, ground := Ground.data }, { on := 8, ground := Ground.chain }, { on := 8, ground := Ground.guard }], guard := some (8, false) }) rfl (fun K hK => ?_) AllReadyH.nil
  go_simp
  go_at_call 17; (with_reducible refine (PLC.out _ B0.out).mono ?_); rintro e w4 ⟨rfl, b4⟩; have B4 := Lib.hid b4; clear b4
  try go_wp2_with fail
  refine hK.out _ _ ?_ (fun hHeld => ?_)
  · exact B4.out
  clear hK K
  try simp only [Act.put, List.setIfInBounds_toArray, List.set_cons_zero, List.set_cons_succ]
  refine wpAnyH_ready (rs := [16]) (by kernel_rfl) (by simp) ?_
  refine AllReadyH.cons (o := { dst := some 106, op := Op.call { callee := Callee.value (Operand.func 34), args := #[Operand.tmp 103, Operand.tmp 105], argTypes := #[25, 9] }, type := 3, pos := "law.go:64", after := #[{ on := 13, ground := Ground.data }, { on := 15, ground := Ground.data }, { on := 12, ground := Ground.chain }, { on := 8, ground := Ground.guard }], guard := some (8, false) }) rfl (fun K hK => ?_) AllReadyH.nil
  go_simp
  go_at_call 34; (with_reducible refine (RPL.out _ B4.out).mono ?_); rintro e w5 ⟨rfl, b5⟩; have B5 := Lib.hid b5; clear b5
  try go_wp2_with fail
  refine hK.out _ _ ?_ (fun hHeld => ?_)
  · exact B5.out
  clear hK K
  try simp only [Act.put, List.setIfInBounds_toArray, List.set_cons_zero, List.set_cons_succ]
  refine wpAnyH_take (i := 17) (oi := { dst := some 107, op := Op.binOp BinOp.neq 3 (Operand.tmp 102) (Operand.tmp 106) 3, type := 4, pos := "law.go:64", after := #[{ on := 12, ground := Ground.data }, { on := 16, ground := Ground.data }, { on := 8, ground := Ground.guard }], guard := some (8, false) }) (v := ?_) rfl (by kernel_rfl) (by kernel_rfl) (by kernel_rfl) (fun _ _ _ h => h) (Or.inl ⟨by rfl, ?_⟩) hHeld ?_
  rotate_left
  · intro w hSw; clear hSw; go_simp; try with_reducible rfl
  try simp only [Act.put, List.setIfInBounds_toArray, List.set_cons_zero, List.set_cons_succ]
  refine wpAnyH_take (i := 18) (oi := { dst := some 108, op := Op.pick (Operand.tmp 98) (Operand.const (Value.bool true)) (Operand.tmp 107), type := 4, pos := "law.go:64", after := #[{ on := 8, ground := Ground.data }, { on := 17, ground := Ground.data }], guard := none }) (v := ?_) rfl (by kernel_rfl) (by kernel_rfl) (by kernel_rfl) (fun _ _ _ h => h) (Or.inl ⟨by rfl, ?_⟩) hHeld ?_
  rotate_left
  · intro w hSw; clear hSw; go_simp; try with_reducible rfl
  try simp only [Act.put, List.setIfInBounds_toArray, List.set_cons_zero, List.set_cons_succ]
  refine wpAnyH_take (i := 19) (oi := { dst := some 109, op := Op.move (Operand.tmp 108), type := 4, pos := "law.go:64", after := #[{ on := 18, ground := Ground.data }, { on := 16, ground := Ground.chain }], guard := none }) (v := ?_) rfl (by kernel_rfl) (by kernel_rfl) (by kernel_rfl) (fun _ _ _ h => h) (Or.inl ⟨by rfl, ?_⟩) hHeld ?_
  rotate_left
  · intro w hSw; clear hSw; go_simp; try with_reducible rfl
  try simp only [Act.put, List.setIfInBounds_toArray, List.set_cons_zero, List.set_cons_succ]
  refine wpAnyH_take (i := 20) (oi := { dst := some 110, op := Op.move (Operand.tmp 0), type := 23, pos := "law.go:64", after := #[{ on := 19, ground := Ground.guard }], guard := some (19, false) }) (v := ?_) rfl (by kernel_rfl) (by kernel_rfl) (by kernel_rfl) (fun _ _ _ h => h) (Or.inl ⟨by rfl, ?_⟩) hHeld ?_
  rotate_left
  · intro w hSw; clear hSw; go_simp; try with_reducible rfl
  try simp only [Act.put, List.setIfInBounds_toArray, List.set_cons_zero, List.set_cons_succ]
  refine wpAnyH_take (i := 21) (oi := { dst := some 111, op := Op.fieldAddr 29 (Operand.tmp 5) 1, type := 0, pos := "law.go:64", after := #[{ on := 19, ground := Ground.guard }], guard := some (19, false) }) (v := ?_) rfl (by kernel_rfl) (by kernel_rfl) (by kernel_rfl) (fun _ _ _ h => h) (Or.inl ⟨by rfl, ?_⟩) hHeld ?_
  rotate_left
  · intro w hSw; clear hSw; go_simp; try with_reducible rfl
  try simp only [Act.put, List.setIfInBounds_toArray, List.set_cons_zero, List.set_cons_succ]
  refine wpAnyH_take (i := 22) (oi := { dst := some 112, op := Op.load 9 (Operand.tmp 111), type := 9, pos := "law.go:64", after := #[{ on := 21, ground := Ground.data }, { on := 19, ground := Ground.guard }], guard := some (19, false) }) (v := .string k) rfl (by kernel_rfl) (by kernel_rfl) (by kernel_rfl) (fun _ _ _ h => h) (Or.inl ⟨by rfl, ?_⟩) hHeld ?_
  · intro V hV; have hc0 := (KP.out _ hV).1; clear hV; go_simp
  try simp only [Act.put, List.setIfInBounds_toArray, List.set_cons_zero, List.set_cons_succ]
  refine wpAnyH_take (i := 24) (oi := { dst := some 114, op := Op.move (Operand.tmp 1), type := 25, pos := "law.go:64", after := #[{ on := 19, ground := Ground.guard }], guard := some (19, false) }) (v := ?_) rfl (by kernel_rfl) (by kernel_rfl) (by kernel_rfl) (fun _ _ _ h => h) (Or.inl ⟨by rfl, ?_⟩) hHeld ?_
  rotate_left
  · intro w hSw; clear hSw; go_simp; try with_reducible rfl
  try simp only [Act.put, List.setIfInBounds_toArray, List.set_cons_zero, List.set_cons_succ]
  refine wpAnyH_take (i := 25) (oi := { dst := some 115, op := Op.fieldAddr 29 (Operand.tmp 5) 1, type := 0, pos := "law.go:64", after := #[{ on := 19, ground := Ground.guard }], guard := some (19, false) }) (v := ?_) rfl (by kernel_rfl) (by kernel_rfl) (by kernel_rfl) (fun _ _ _ h => h) (Or.inl ⟨by rfl, ?_⟩) hHeld ?_
  rotate_left
  · intro w hSw; clear hSw; go_simp; try with_reducible rfl
  try simp only [Act.put, List.setIfInBounds_toArray, List.set_cons_zero, List.set_cons_succ]
  refine wpAnyH_take (i := 26) (oi := { dst := some 116, op := Op.load 9 (Operand.tmp 115), type := 9, pos := "law.go:64", after := #[{ on := 25, ground := Ground.data }, { on := 19, ground := Ground.guard }], guard := some (19, false) }) (v := .string k) rfl (by kernel_rfl) (by kernel_rfl) (by kernel_rfl) (fun _ _ _ h => h) (Or.inl ⟨by rfl, ?_⟩) hHeld ?_
  · intro V hV; have hc0 := (KP.out _ hV).1; clear hV; go_simp
  try simp only [Act.put, List.setIfInBounds_toArray, List.set_cons_zero, List.set_cons_succ]
  refine wpAnyH_ready (rs := [23]) (by kernel_rfl) (by simp) ?_
  refine AllReadyH.cons (o := { dst := some 113, op := Op.call { callee := Callee.value (Operand.func 19), args := #[Operand.tmp 110, Operand.tmp 112], argTypes := #[23, 9] }, type := 25, pos := "law.go:64", after := #[{ on := 20, ground := Ground.data }, { on := 22, ground := Ground.data }, { on := 19, ground := Ground.chain }, { on := 19, ground := Ground.guard }], guard := some (19, false) }) rfl (fun K hK => ?_) AllReadyH.nil
  go_simp
  go_at_call 19; (with_reducible refine (FRM.out _ B5.out).mono ?_); rintro e w6 ⟨A1, k1, rfl, r1, b6⟩; have B6 := Lib.hid b6; have R1 := Lib.hid r1; clear b6 r1
  try go_wp2_with fail
  refine hK.out _ _ ?_ (fun hHeld => ?_)
  · exact B6.out
  clear hK K
  try simp only [Act.put, List.setIfInBounds_toArray, List.set_cons_zero, List.set_cons_succ]
  refine wpAnyH_ready (rs := [27]) (by kernel_rfl) (by simp) ?_
  refine AllReadyH.cons (o := { dst := some 117, op := Op.call { callee := Callee.value (Operand.func 35), args := #[Operand.tmp 114, Operand.tmp 116], argTypes := #[25, 9] }, type := 25, pos := "law.go:64", after := #[{ on := 24, ground := Ground.data }, { on := 26, ground := Ground.data }, { on := 23, ground := Ground.chain }, { on := 19, ground := Ground.guard }], guard := some (19, false) }) rfl (fun K hK => ?_) AllReadyH.nil
  go_simp
  go_at_call 35; (with_reducible refine (RFR.out _ B6.out).mono ?_); rintro e w7 ⟨A2, k2, rfl, r2, b7, b77⟩; have B7 := Lib.hid b7; have R2 := Lib.hid r2; have R1' := Lib.hid (Rd.later R1.out b77); clear b7 r2 b77
  try go_wp2_with fail
  refine hK.out _ _ ?_ (fun hHeld => ?_)
  · exact B7.out
  clear hK K
  try simp only [Act.put, List.setIfInBounds_toArray, List.set_cons_zero, List.set_cons_succ]
  refine wpAnyH_ready (rs := [28]) (by kernel_rfl) (by simp) ?_
  refine AllReadyH.cons (o := { dst := some 118, op := Op.call { callee := Callee.value (Operand.func 13), args := #[Operand.tmp 113, Operand.tmp 117], argTypes := #[25, 25] }, type := 4, pos := "law.go:64", after := #[{ on := 23, ground := Ground.data }, { on := 27, ground := Ground.data }, { on := 27, ground := Ground.chain }, { on := 19, ground := Ground.guard }], guard := some (19, false) }) rfl (fun K hK => ?_) AllReadyH.nil
  go_simp
  go_at_call 13; (with_reducible refine (SAM.out _ _ _ _ _ B7.out R1'.out R2.out).mono ?_); rintro e w8 ⟨rfl, b8⟩; have B8 := Lib.hid b8; clear b8
  try go_wp2_with fail
  refine hK.out _ _ ?_ (fun hHeld => ?_)
  · exact B8.out
  clear hK K
  try simp only [Act.put, List.setIfInBounds_toArray, List.set_cons_zero, List.set_cons_succ]
  refine wpAnyH_take (i := 29) (oi := { dst := some 119, op := Op.unOp UnOp.not 4 (Operand.tmp 118), type := 4, pos := "law.go:64", after := #[{ on := 28, ground := Ground.data }, { on := 19, ground := Ground.guard }], guard := some (19, false) }) (v := ?_) rfl (by kernel_rfl) (by kernel_rfl) (by kernel_rfl) (fun _ _ _ h => h) (Or.inl ⟨by rfl, ?_⟩) hHeld ?_
  rotate_left
  · intro w hSw; clear hSw; go_simp; try with_reducible rfl
  try simp only [Act.put, List.setIfInBounds_toArray, List.set_cons_zero, List.set_cons_succ]
  refine wpAnyH_take (i := 30) (oi := { dst := some 120, op := Op.pick (Operand.tmp 109) (Operand.const (Value.bool true)) (Operand.tmp 119), type := 4, pos := "law.go:64", after := #[{ on := 19, ground := Ground.data }, { on := 29, ground := Ground.data }], guard := none }) (v := ?_) rfl (by kernel_rfl) (by kernel_rfl) (by kernel_rfl) (fun _ _ _ h => h) (Or.inl ⟨by rfl, ?_⟩) hHeld ?_
  rotate_left
  · intro w hSw; clear hSw; go_simp; try with_reducible rfl
  try simp only [Act.put, List.setIfInBounds_toArray, List.set_cons_zero, List.set_cons_succ]
  refine wpAnyH_done (by kernel_rfl) ?_ _
  have c9 := (KP.out _ B8.out).2.1
  have hfin := Lib.hid (bel_trans HB.out (bel_trans BV.out B8.out))
  clear PLC RPL FRM RFR SAM
  go_wp2
  exact bodyPost_ret (v := .tuple #[.slice A L.length c, .bool true]) (by simp [results, Try.results10, go_sem]) rfl ⟨rfl, hfin.out⟩
set_option maxHeartbeats 4000000 in
set_option maxRecDepth 100000 in
theorem look_big (N : Nat) (A : Option Addr) (c : Nat) (L : PL) (d : Int) (k t : ByteArray) (nn : Int) (w : World) (hm : MapIs w N L) (hs : Srt ltS L) (hn : L.length ≤ 980) (hr : RdP w A L) (hd0 : d ≠ 0) (hd1 : d ≠ 1) (hd2 : d ≠ 2) (h0 : 0 ≤ nn) (h1 : (L.length : Int) ≤ nn) :
    Calls Try.prog 10 #[.pointer (some ⟨N, 0, none⟩), .slice A L.length c, .agg #[.int .i64 d, .string k, .string t, .int .i64 nn]] w (fun e w' => e = .returned (.tuple #[.slice A L.length c, .bool true]) ∧ Below w.heap.size w w') := by
  obtain ⟨c0, c1, c2, c3⟩ := d_cells w d k t nn
  have hB := bel_alloc (Below.refl w.heap.size w) (dObj d k t nn)
  obtain ⟨gv, bb, hg, hb⟩ := get_two k L
  have e0 : (d == 0) = false := by simpa using hd0
  have e1 : (d == 1) = false := by simpa using hd1
  have e2 : (d == 2) = false := by simpa using hd2
  have hat : atV L nn = .tuple #[.string ⟨#[]⟩, .int .i64 0, .bool false] := by unfold atV; rw [if_pos h0, List.getElem?_eq_none (by omega)]
  have h2 : ¬ nn < 0 := by omega
  have hm0 : MapIs (w.alloc (dObj d k t nn)) N L := hm.later hB
  have hr0 : RdP (w.alloc (dObj d k t nn)) A L := Rd.later hr hB
  have GT : Hid (Calls Try.prog 30 #[.slice A L.length c, .string k] (w.alloc (dObj d k t nn)) fun e w' => e = .returned (.tuple #[.int .i64 gv, .bool (!bb)]) ∧ (w.alloc (dObj d k t nn)) = w') := Lib.hid (by
    have := rget_any A L.length c L k (w.alloc (dObj d k t nn)) rfl (by omega) hr0
    rw [rget_get, hg] at this; exact this)
  have MG : Hid (Calls Try.prog 26 #[.pointer (some ⟨N, 0, none⟩), .string k] (w.alloc (dObj d k t nn)) fun e w' => e = .returned (.tuple #[.int .i64 gv, .bool (!bb)]) ∧ Below (w.alloc (dObj d k t nn)).heap.size (w.alloc (dObj d k t nn)) w') := Lib.hid (by
    have := get_any N L k (w.alloc (dObj d k t nn)) hm0 hs
    rw [hg] at this; exact this)
  have MA : Hid (∀ W, Below (w.alloc (dObj d k t nn)).heap.size (w.alloc (dObj d k t nn)) W → Calls Try.prog 16 #[.pointer (some ⟨N, 0, none⟩), .int .i64 nn] W fun e w' => e = .returned (.tuple #[.string ⟨#[]⟩, .int .i64 0, .bool false]) ∧ Below (w.alloc (dObj d k t nn)).heap.size (w.alloc (dObj d k t nn)) w') := Lib.hid (fun W hW => by
    have := at_any N L nn W (hm0.later hW) (by omega)
    rw [hat] at this
    exact this.mono (fun e w' h => ⟨h.1, bel_trans hW h.2⟩))
  have KP0 : Hid (∀ W, Below (w.alloc (dObj d k t nn)).heap.size (w.alloc (dObj d k t nn)) W → W.cell? ⟨w.heap.size, 1, none⟩ = some (.string k) ∧ W.cell? ⟨w.heap.size, 3, none⟩ = some (.int .i64 nn) ∧ MapIs W N L ∧ RdP W A L) := Lib.hid (fun W hW => ⟨bel_later hW c1, bel_later hW c3, hm0.later hW, Rd.later hr0 hW⟩)
  have HB := Lib.hid hB
  have HS := Lib.hid hs
  have HN := Lib.hid hn
  clear hm hr hs hg hb hat hm0 hr0 hd0 hd1 hd2
  clear hB
  go_enter Try.func10, Try.ntmps10
  go_wp2_with (first
    | (go_at_call 30; (with_reducible refine GT.out.mono ?_); rintro e w1 ⟨rfl, rfl⟩; clear GT; generalize w.alloc (dObj d k t nn) = V0 at *)
    | (go_at_call 26; (with_reducible refine MG.out.mono ?_); rintro e w2 ⟨rfl, b2⟩; have B2 := Lib.hid b2; have c4 := (KP0.out _ b2).2.1; clear b2)
    | (go_at_call 16; (with_reducible refine (MA.out _ B2.out).mono ?_); rintro e V ⟨rfl, b3⟩; have BV := Lib.hid b3; clear b3)
    | fail)
  have B0 : Hid (Below V.heap.size V V.drew) := Lib.hid (bel_dw (Below.refl _ _))
  have KP : Hid (∀ W, Below V.heap.size V W → W.cell? ⟨w.heap.size, 1, none⟩ = some (.string k) ∧ W.cell? ⟨w.heap.size, 3, none⟩ = some (.int .i64 nn) ∧ MapIs W N L ∧ RdP W A L) := Lib.hid (fun W hW => KP0.out W (bel_trans BV.out hW))
  have PLC : Hid (∀ W, Below V.heap.size V W → Calls Try.prog 17 #[.pointer (some ⟨N, 0, none⟩), .string k] W fun e w' => e = .returned (.int .i64 ((below ltS k L).length : Int)) ∧ Below V.heap.size V w') := Lib.hid (fun W hW => (place_any N L k W (KP.out W hW).2.2.1 HS.out (by have := HN.out; omega)).mono (fun e w' h => ⟨h.1, bel_trans hW h.2⟩))
  have RPL : Hid (∀ W, Below V.heap.size V W → Calls Try.prog 34 #[.slice A L.length c, .string k] W fun e w' => e = .returned (.int .i64 ((below ltS k L).length : Int)) ∧ Below V.heap.size V w') := Lib.hid (fun W hW => (rplace_any A L.length c L k W rfl (by have := HN.out; omega) (KP.out W hW).2.2.2).mono (fun e w' h => ⟨h.1, bel_trans hW h.2⟩))
  have FRM : Hid (∀ W, Below V.heap.size V W → Calls Try.prog 19 #[.pointer (some ⟨N, 0, none⟩), .string k] W fun e w' => ∃ A1 k1, e = .returned (.slice A1 (fromL k L).length k1) ∧ RdP w' A1 (fromL k L) ∧ Below V.heap.size V w') := Lib.hid (fun W hW => (from_row N L k W (KP.out W hW).2.2.1 HS.out HN.out).mono (fun e w' ⟨a, b, h1, h2, h3, _⟩ => ⟨a, b, h1, h2, bel_trans hW h3⟩))
  have RFR : Hid (∀ W, Below V.heap.size V W → Calls Try.prog 35 #[.slice A L.length c, .string k] W fun e w' => ∃ A1 k1, e = .returned (.slice A1 (fromL k L).length k1) ∧ RdP w' A1 (fromL k L) ∧ Below V.heap.size V w' ∧ Below W.heap.size W w') := Lib.hid (fun W hW => by
    have := rfrom_any A L.length c L k W rfl (by have := HN.out; omega) (KP.out W hW).2.2.2
    rw [from_eq HS.out] at this
    exact this.mono (fun e w' ⟨a, b, h1, h2, h3, _⟩ => ⟨some a, b, h1, h2, bel_trans hW h3, h3⟩))
  have SAM : Hid (∀ W A1 A2 k1 k2, Below V.heap.size V W → RdP W A1 (fromL k L) → RdP W A2 (fromL k L) → Calls Try.prog 13 #[.slice A1 (fromL k L).length k1, .slice A2 (fromL k L).length k2] W fun e w' => e = .returned (.bool true) ∧ Below V.heap.size V w') := Lib.hid (fun W A1 A2 k1 k2 hW h1 h2 => (same_yes A1 A2 (fromL k L).length k1 k2 (fromL k L) W rfl (by rw [← from_eq HS.out]; exact Nat.le_trans (List.length_filter_le _ _) (by have := HN.out; omega)) h1 h2).mono (fun e w' h => ⟨h.1, bel_trans hW h.2⟩))
  clear MG MA KP0 c0 c1 c2 c3 c4 e0 e1 e2
  refine wp_region_held_drew (S := (fun X => Below V.heap.size V X)) (by kernel_rfl) ?_ (fun hHeld => ?_)
  · exact B0.out
  refine wpAnyH_take (i := 0) (oi := { dst := some 90, op := Op.move (Operand.tmp 11), type := 3, pos := "law.go:64", after := #[], guard := none }) (v := ?_) rfl (by kernel_rfl) (by kernel_rfl) (by kernel_rfl) (fun _ _ _ h => h) (Or.inl ⟨by rfl, ?_⟩) hHeld ?_
  rotate_left
  · intro w hSw; clear hSw; go_simp; try with_reducible rfl
  try simp only [Act.put, List.setIfInBounds_toArray, List.set_cons_zero, List.set_cons_succ]
  refine wpAnyH_take (i := 1) (oi := { dst := some 91, op := Op.move (Operand.tmp 8), type := 3, pos := "law.go:64", after := #[], guard := none }) (v := ?_) rfl (by kernel_rfl) (by kernel_rfl) (by kernel_rfl) (fun _ _ _ h => h) (Or.inl ⟨by rfl, ?_⟩) hHeld ?_
  rotate_left
  · intro w hSw; clear hSw; go_simp; try with_reducible rfl
  try simp only [Act.put, List.setIfInBounds_toArray, List.set_cons_zero, List.set_cons_succ]
  refine wpAnyH_take (i := 2) (oi := { dst := some 92, op := Op.binOp BinOp.neq 3 (Operand.tmp 90) (Operand.tmp 91) 3, type := 4, pos := "law.go:64", after := #[{ on := 0, ground := Ground.data }, { on := 1, ground := Ground.data }], guard := none }) (v := ?_) rfl (by kernel_rfl) (by kernel_rfl) (by kernel_rfl) (fun _ _ _ h => h) (Or.inl ⟨by rfl, ?_⟩) hHeld ?_
  rotate_left
  · intro w hSw; clear hSw; go_simp; try with_reducible rfl
  try simp only [Act.put, List.setIfInBounds_toArray, List.set_cons_zero, List.set_cons_succ]
  refine wpAnyH_take (i := 3) (oi := { dst := some 93, op := Op.move (Operand.tmp 92), type := 4, pos := "law.go:64", after := #[{ on := 2, ground := Ground.data }], guard := none }) (v := ?_) rfl (by kernel_rfl) (by kernel_rfl) (by kernel_rfl) (fun _ _ _ h => h) (Or.inl ⟨by rfl, ?_⟩) hHeld ?_
  rotate_left
  · intro w hSw; clear hSw; go_simp; try with_reducible rfl
  try simp only [Act.put, List.setIfInBounds_toArray, List.set_cons_zero, List.set_cons_succ]
  refine wpAnyH_take (i := 4) (oi := { dst := some 94, op := Op.move (Operand.tmp 12), type := 4, pos := "law.go:64", after := #[{ on := 3, ground := Ground.guard }], guard := some (3, false) }) (v := ?_) rfl (by kernel_rfl) (by kernel_rfl) (by kernel_rfl) (fun _ _ _ h => h) (Or.inl ⟨by rfl, ?_⟩) hHeld ?_
  rotate_left
  · intro w hSw; clear hSw; go_simp; try with_reducible rfl
  try simp only [Act.put, List.setIfInBounds_toArray, List.set_cons_zero, List.set_cons_succ]
  refine wpAnyH_take (i := 5) (oi := { dst := some 95, op := Op.move (Operand.tmp 9), type := 4, pos := "law.go:64", after := #[{ on := 3, ground := Ground.guard }], guard := some (3, false) }) (v := ?_) rfl (by kernel_rfl) (by kernel_rfl) (by kernel_rfl) (fun _ _ _ h => h) (Or.inl ⟨by rfl, ?_⟩) hHeld ?_
  rotate_left
  · intro w hSw; clear hSw; go_simp; try with_reducible rfl
  try simp only [Act.put, List.setIfInBounds_toArray, List.set_cons_zero, List.set_cons_succ]
  refine wpAnyH_take (i := 6) (oi := { dst := some 96, op := Op.binOp BinOp.neq 4 (Operand.tmp 94) (Operand.tmp 95) 4, type := 4, pos := "law.go:64", after := #[{ on := 4, ground := Ground.data }, { on := 5, ground := Ground.data }, { on := 3, ground := Ground.guard }], guard := some (3, false) }) (v := ?_) rfl (by kernel_rfl) (by kernel_rfl) (by kernel_rfl) (fun _ _ _ h => h) (Or.inl ⟨by rfl, ?_⟩) hHeld ?_
  rotate_left
  · intro w hSw; clear hSw; go_simp; try with_reducible rfl
  try simp only [Act.put, List.setIfInBounds_toArray, List.set_cons_zero, List.set_cons_succ]
  refine wpAnyH_take (i := 7) (oi := { dst := some 97, op := Op.pick (Operand.tmp 93) (Operand.const (Value.bool true)) (Operand.tmp 96), type := 4, pos := "law.go:64", after := #[{ on := 3, ground := Ground.data }, { on := 6, ground := Ground.data }], guard := none }) (v := ?_) rfl (by kernel_rfl) (by kernel_rfl) (by kernel_rfl) (fun _ _ _ h => h) (Or.inl ⟨by rfl, ?_⟩) hHeld ?_
  rotate_left
  · intro w hSw; clear hSw; go_simp; try with_reducible rfl
  try simp only [Act.put, List.setIfInBounds_toArray, List.set_cons_zero, List.set_cons_succ]
  refine wpAnyH_take (i := 8) (oi := { dst := some 98, op := Op.move (Operand.tmp 97), type := 4, pos := "law.go:64", after := #[{ on := 7, ground := Ground.data }, { on := 3, ground := Ground.chain }], guard := none }) (v := ?_) rfl (by kernel_rfl) (by kernel_rfl) (by kernel_rfl) (fun _ _ _ h => h) (Or.inl ⟨by rfl, ?_⟩) hHeld ?_
  rotate_left
  · intro w hSw; clear hSw; go_simp; try with_reducible rfl
  try simp only [Act.put, List.setIfInBounds_toArray, List.set_cons_zero, List.set_cons_succ]
  refine wpAnyH_take (i := 9) (oi := { dst := some 99, op := Op.move (Operand.tmp 0), type := 23, pos := "law.go:64", after := #[{ on := 8, ground := Ground.guard }], guard := some (8, false) }) (v := ?_) rfl (by kernel_rfl) (by kernel_rfl) (by kernel_rfl) (fun _ _ _ h => h) (Or.inl ⟨by rfl, ?_⟩) hHeld ?_
  rotate_left
  · intro w hSw; clear hSw; go_simp; try with_reducible rfl
  try simp only [Act.put, List.setIfInBounds_toArray, List.set_cons_zero, List.set_cons_succ]
  refine wpAnyH_take (i := 10) (oi := { dst := some 100, op := Op.fieldAddr 29 (Operand.tmp 5) 1, type := 0, pos := "law.go:64", after := #[{ on := 8, ground := Ground.guard }], guard := some (8, false) }) (v := ?_) rfl (by kernel_rfl) (by kernel_rfl) (by kernel_rfl) (fun _ _ _ h => h) (Or.inl ⟨by rfl, ?_⟩) hHeld ?_
  rotate_left
  · intro w hSw; clear hSw; go_simp; try with_reducible rfl
  try simp only [Act.put, List.setIfInBounds_toArray, List.set_cons_zero, List.set_cons_succ]
  refine wpAnyH_take (i := 11) (oi := { dst := some 101, op := Op.load 9 (Operand.tmp 100), type := 9, pos := "law.go:64", after := #[{ on := 10, ground := Ground.data }, { on := 8, ground := Ground.guard }], guard := some (8, false) }) (v := .string k) rfl (by kernel_rfl) (by kernel_rfl) (by kernel_rfl) (fun _ _ _ h => h) (Or.inl ⟨by rfl, ?_⟩) hHeld ?_
  · intro V hV; have hc0 := (KP.out _ hV).1; clear hV; go_simp
  try simp only [Act.put, List.setIfInBounds_toArray, List.set_cons_zero, List.set_cons_succ]
  refine wpAnyH_take (i := 13) (oi := { dst := some 103, op := Op.move (Operand.tmp 1), type := 25, pos := "law.go:64", after := #[{ on := 8, ground := Ground.guard }], guard := some (8, false) }) (v := ?_) rfl (by kernel_rfl) (by kernel_rfl) (by kernel_rfl) (fun _ _ _ h => h) (Or.inl ⟨by rfl, ?_⟩) hHeld ?_
  rotate_left
  · intro w hSw; clear hSw; go_simp; try with_reducible rfl
  try simp only [Act.put, List.setIfInBounds_toArray, List.set_cons_zero, List.set_cons_succ]
  refine wpAnyH_take (i := 14) (oi := { dst := some 104, op := Op.fieldAddr 29 (Operand.tmp 5) 1, type := 0, pos := "law.go:64", after := #[{ on := 8, ground := Ground.guard }], guard := some (8, false) }) (v := ?_) rfl (by kernel_rfl) (by kernel_rfl) (by kernel_rfl) (fun _ _ _ h => h) (Or.inl ⟨by rfl, ?_⟩) hHeld ?_
  rotate_left
  · intro w hSw; clear hSw; go_simp; try with_reducible rfl
  try simp only [Act.put, List.setIfInBounds_toArray, List.set_cons_zero, List.set_cons_succ]
  refine wpAnyH_take (i := 15) (oi := { dst := some 105, op := Op.load 9 (Operand.tmp 104), type := 9, pos := "law.go:64", after := #[{ on := 14, ground := Ground.data }, { on := 8, ground := Ground.guard }], guard := some (8, false) }) (v := .string k) rfl (by kernel_rfl) (by kernel_rfl) (by kernel_rfl) (fun _ _ _ h => h) (Or.inl ⟨by rfl, ?_⟩) hHeld ?_
  · intro V hV; have hc0 := (KP.out _ hV).1; clear hV; go_simp
  try simp only [Act.put, List.setIfInBounds_toArray, List.set_cons_zero, List.set_cons_succ]
  refine wpAnyH_ready (rs := [12]) (by kernel_rfl) (by simp) ?_
  refine AllReadyH.cons (o := { dst := some 102, op := Op.call { callee := Callee.value (Operand.func 17), args := #[Operand.tmp 99, Operand.tmp 101], argTypes := #[23, 9] }, type := 3, pos := "law.go:64", after := #[{ on := 9, ground := Ground.data }, { on := 11, ground := Ground.data }, { on := 8, ground := Ground.chain }, { on := 8, ground := Ground.guard }], guard := some (8, false) }) rfl (fun K hK => ?_) AllReadyH.nil
  go_simp
  go_at_call 17; (with_reducible refine (PLC.out _ B0.out).mono ?_); rintro e w4 ⟨rfl, b4⟩; have B4 := Lib.hid b4; clear b4
  try go_wp2_with fail
  refine hK.out _ _ ?_ (fun hHeld => ?_)
  · exact B4.out
  clear hK K
  try simp only [Act.put, List.setIfInBounds_toArray, List.set_cons_zero, List.set_cons_succ]
  refine wpAnyH_ready (rs := [16]) (by kernel_rfl) (by simp) ?_
  refine AllReadyH.cons (o := { dst := some 106, op := Op.call { callee := Callee.value (Operand.func 34), args := #[Operand.tmp 103, Operand.tmp 105], argTypes := #[25, 9] }, type := 3, pos := "law.go:64", after := #[{ on := 13, ground := Ground.data }, { on := 15, ground := Ground.data }, { on := 12, ground := Ground.chain }, { on := 8, ground := Ground.guard }], guard := some (8, false) }) rfl (fun K hK => ?_) AllReadyH.nil
  go_simp
  go_at_call 34; (with_reducible refine (RPL.out _ B4.out).mono ?_); rintro e w5 ⟨rfl, b5⟩; have B5 := Lib.hid b5; clear b5
  try go_wp2_with fail
  refine hK.out _ _ ?_ (fun hHeld => ?_)
  · exact B5.out
  clear hK K
  try simp only [Act.put, List.setIfInBounds_toArray, List.set_cons_zero, List.set_cons_succ]
  refine wpAnyH_take (i := 17) (oi := { dst := some 107, op := Op.binOp BinOp.neq 3 (Operand.tmp 102) (Operand.tmp 106) 3, type := 4, pos := "law.go:64", after := #[{ on := 12, ground := Ground.data }, { on := 16, ground := Ground.data }, { on := 8, ground := Ground.guard }], guard := some (8, false) }) (v := ?_) rfl (by kernel_rfl) (by kernel_rfl) (by kernel_rfl) (fun _ _ _ h => h) (Or.inl ⟨by rfl, ?_⟩) hHeld ?_
  rotate_left
  · intro w hSw; clear hSw; go_simp; try with_reducible rfl
  try simp only [Act.put, List.setIfInBounds_toArray, List.set_cons_zero, List.set_cons_succ]
  refine wpAnyH_take (i := 18) (oi := { dst := some 108, op := Op.pick (Operand.tmp 98) (Operand.const (Value.bool true)) (Operand.tmp 107), type := 4, pos := "law.go:64", after := #[{ on := 8, ground := Ground.data }, { on := 17, ground := Ground.data }], guard := none }) (v := ?_) rfl (by kernel_rfl) (by kernel_rfl) (by kernel_rfl) (fun _ _ _ h => h) (Or.inl ⟨by rfl, ?_⟩) hHeld ?_
  rotate_left
  · intro w hSw; clear hSw; go_simp; try with_reducible rfl
  try simp only [Act.put, List.setIfInBounds_toArray, List.set_cons_zero, List.set_cons_succ]
  refine wpAnyH_take (i := 19) (oi := { dst := some 109, op := Op.move (Operand.tmp 108), type := 4, pos := "law.go:64", after := #[{ on := 18, ground := Ground.data }, { on := 16, ground := Ground.chain }], guard := none }) (v := ?_) rfl (by kernel_rfl) (by kernel_rfl) (by kernel_rfl) (fun _ _ _ h => h) (Or.inl ⟨by rfl, ?_⟩) hHeld ?_
  rotate_left
  · intro w hSw; clear hSw; go_simp; try with_reducible rfl
  try simp only [Act.put, List.setIfInBounds_toArray, List.set_cons_zero, List.set_cons_succ]
  refine wpAnyH_take (i := 20) (oi := { dst := some 110, op := Op.move (Operand.tmp 0), type := 23, pos := "law.go:64", after := #[{ on := 19, ground := Ground.guard }], guard := some (19, false) }) (v := ?_) rfl (by kernel_rfl) (by kernel_rfl) (by kernel_rfl) (fun _ _ _ h => h) (Or.inl ⟨by rfl, ?_⟩) hHeld ?_
  rotate_left
  · intro w hSw; clear hSw; go_simp; try with_reducible rfl
  try simp only [Act.put, List.setIfInBounds_toArray, List.set_cons_zero, List.set_cons_succ]
  refine wpAnyH_take (i := 21) (oi := { dst := some 111, op := Op.fieldAddr 29 (Operand.tmp 5) 1, type := 0, pos := "law.go:64", after := #[{ on := 19, ground := Ground.guard }], guard := some (19, false) }) (v := ?_) rfl (by kernel_rfl) (by kernel_rfl) (by kernel_rfl) (fun _ _ _ h => h) (Or.inl ⟨by rfl, ?_⟩) hHeld ?_
  rotate_left
  · intro w hSw; clear hSw; go_simp; try with_reducible rfl
  try simp only [Act.put, List.setIfInBounds_toArray, List.set_cons_zero, List.set_cons_succ]
  refine wpAnyH_take (i := 22) (oi := { dst := some 112, op := Op.load 9 (Operand.tmp 111), type := 9, pos := "law.go:64", after := #[{ on := 21, ground := Ground.data }, { on := 19, ground := Ground.guard }], guard := some (19, false) }) (v := .string k) rfl (by kernel_rfl) (by kernel_rfl) (by kernel_rfl) (fun _ _ _ h => h) (Or.inl ⟨by rfl, ?_⟩) hHeld ?_
  · intro V hV; have hc0 := (KP.out _ hV).1; clear hV; go_simp
  try simp only [Act.put, List.setIfInBounds_toArray, List.set_cons_zero, List.set_cons_succ]
  refine wpAnyH_take (i := 24) (oi := { dst := some 114, op := Op.move (Operand.tmp 1), type := 25, pos := "law.go:64", after := #[{ on := 19, ground := Ground.guard }], guard := some (19, false) }) (v := ?_) rfl (by kernel_rfl) (by kernel_rfl) (by kernel_rfl) (fun _ _ _ h => h) (Or.inl ⟨by rfl, ?_⟩) hHeld ?_
  rotate_left
  · intro w hSw; clear hSw; go_simp; try with_reducible rfl
  try simp only [Act.put, List.setIfInBounds_toArray, List.set_cons_zero, List.set_cons_succ]
  refine wpAnyH_take (i := 25) (oi := { dst := some 115, op := Op.fieldAddr 29 (Operand.tmp 5) 1, type := 0, pos := "law.go:64", after := #[{ on := 19, ground := Ground.guard }], guard := some (19, false) }) (v := ?_) rfl (by kernel_rfl) (by kernel_rfl) (by kernel_rfl) (fun _ _ _ h => h) (Or.inl ⟨by rfl, ?_⟩) hHeld ?_
  rotate_left
  · intro w hSw; clear hSw; go_simp; try with_reducible rfl
  try simp only [Act.put, List.setIfInBounds_toArray, List.set_cons_zero, List.set_cons_succ]
  refine wpAnyH_take (i := 26) (oi := { dst := some 116, op := Op.load 9 (Operand.tmp 115), type := 9, pos := "law.go:64", after := #[{ on := 25, ground := Ground.data }, { on := 19, ground := Ground.guard }], guard := some (19, false) }) (v := .string k) rfl (by kernel_rfl) (by kernel_rfl) (by kernel_rfl) (fun _ _ _ h => h) (Or.inl ⟨by rfl, ?_⟩) hHeld ?_
  · intro V hV; have hc0 := (KP.out _ hV).1; clear hV; go_simp
  try simp only [Act.put, List.setIfInBounds_toArray, List.set_cons_zero, List.set_cons_succ]
  refine wpAnyH_ready (rs := [23]) (by kernel_rfl) (by simp) ?_
  refine AllReadyH.cons (o := { dst := some 113, op := Op.call { callee := Callee.value (Operand.func 19), args := #[Operand.tmp 110, Operand.tmp 112], argTypes := #[23, 9] }, type := 25, pos := "law.go:64", after := #[{ on := 20, ground := Ground.data }, { on := 22, ground := Ground.data }, { on := 19, ground := Ground.chain }, { on := 19, ground := Ground.guard }], guard := some (19, false) }) rfl (fun K hK => ?_) AllReadyH.nil
  go_simp
  go_at_call 19; (with_reducible refine (FRM.out _ B5.out).mono ?_); rintro e w6 ⟨A1, k1, rfl, r1, b6⟩; have B6 := Lib.hid b6; have R1 := Lib.hid r1; clear b6 r1
  try go_wp2_with fail
  refine hK.out _ _ ?_ (fun hHeld => ?_)
  · exact B6.out
  clear hK K
  try simp only [Act.put, List.setIfInBounds_toArray, List.set_cons_zero, List.set_cons_succ]
  refine wpAnyH_ready (rs := [27]) (by kernel_rfl) (by simp) ?_
  refine AllReadyH.cons (o := { dst := some 117, op := Op.call { callee := Callee.value (Operand.func 35), args := #[Operand.tmp 114, Operand.tmp 116], argTypes := #[25, 9] }, type := 25, pos := "law.go:64", after := #[{ on := 24, ground := Ground.data }, { on := 26, ground := Ground.data }, { on := 23, ground := Ground.chain }, { on := 19, ground := Ground.guard }], guard := some (19, false) }) rfl (fun K hK => ?_) AllReadyH.nil
  go_simp
  go_at_call 35; (with_reducible refine (RFR.out _ B6.out).mono ?_); rintro e w7 ⟨A2, k2, rfl, r2, b7, b77⟩; have B7 := Lib.hid b7; have R2 := Lib.hid r2; have R1' := Lib.hid (Rd.later R1.out b77); clear b7 r2 b77
  try go_wp2_with fail
  refine hK.out _ _ ?_ (fun hHeld => ?_)
  · exact B7.out
  clear hK K
  try simp only [Act.put, List.setIfInBounds_toArray, List.set_cons_zero, List.set_cons_succ]
  refine wpAnyH_ready (rs := [28]) (by kernel_rfl) (by simp) ?_
  refine AllReadyH.cons (o := { dst := some 118, op := Op.call { callee := Callee.value (Operand.func 13), args := #[Operand.tmp 113, Operand.tmp 117], argTypes := #[25, 25] }, type := 4, pos := "law.go:64", after := #[{ on := 23, ground := Ground.data }, { on := 27, ground := Ground.data }, { on := 27, ground := Ground.chain }, { on := 19, ground := Ground.guard }], guard := some (19, false) }) rfl (fun K hK => ?_) AllReadyH.nil
  go_simp
  go_at_call 13; (with_reducible refine (SAM.out _ _ _ _ _ B7.out R1'.out R2.out).mono ?_); rintro e w8 ⟨rfl, b8⟩; have B8 := Lib.hid b8; clear b8
  try go_wp2_with fail
  refine hK.out _ _ ?_ (fun hHeld => ?_)
  · exact B8.out
  clear hK K
  try simp only [Act.put, List.setIfInBounds_toArray, List.set_cons_zero, List.set_cons_succ]
  refine wpAnyH_take (i := 29) (oi := { dst := some 119, op := Op.unOp UnOp.not 4 (Operand.tmp 118), type := 4, pos := "law.go:64", after := #[{ on := 28, ground := Ground.data }, { on := 19, ground := Ground.guard }], guard := some (19, false) }) (v := ?_) rfl (by kernel_rfl) (by kernel_rfl) (by kernel_rfl) (fun _ _ _ h => h) (Or.inl ⟨by rfl, ?_⟩) hHeld ?_
  rotate_left
  · intro w hSw; clear hSw; go_simp; try with_reducible rfl
  try simp only [Act.put, List.setIfInBounds_toArray, List.set_cons_zero, List.set_cons_succ]
  refine wpAnyH_take (i := 30) (oi := { dst := some 120, op := Op.pick (Operand.tmp 109) (Operand.const (Value.bool true)) (Operand.tmp 119), type := 4, pos := "law.go:64", after := #[{ on := 19, ground := Ground.data }, { on := 29, ground := Ground.data }], guard := none }) (v := ?_) rfl (by kernel_rfl) (by kernel_rfl) (by kernel_rfl) (fun _ _ _ h => h) (Or.inl ⟨by rfl, ?_⟩) hHeld ?_
  rotate_left
  · intro w hSw; clear hSw; go_simp; try with_reducible rfl
  try simp only [Act.put, List.setIfInBounds_toArray, List.set_cons_zero, List.set_cons_succ]
  refine wpAnyH_done (by kernel_rfl) ?_ _
  have c9 := (KP.out _ B8.out).2.1
  have hfin := Lib.hid (bel_trans HB.out (bel_trans BV.out B8.out))
  clear PLC RPL FRM RFR SAM
  go_wp2
  exact bodyPost_ret (v := .tuple #[.slice A L.length c, .bool true]) (by simp [results, Try.results10, go_sem]) rfl ⟨rfl, hfin.out⟩
set_option maxHeartbeats 4000000 in
set_option maxRecDepth 100000 in
theorem look_in (N : Nat) (A : Option Addr) (c : Nat) (L : PL) (i : Nat) (x : ByteArray × Int) (d : Int) (k t : ByteArray) (w : World) (hm : MapIs w N L) (hs : Srt ltS L) (hn : L.length ≤ 980) (hr : RdP w A L) (hd0 : d ≠ 0) (hd1 : d ≠ 1) (hd2 : d ≠ 2) (hx : L[i]? = some x) :
    Calls Try.prog 10 #[.pointer (some ⟨N, 0, none⟩), .slice A L.length c, .agg #[.int .i64 d, .string k, .string t, .int .i64 (i : Int)]] w (fun e w' => e = .returned (.tuple #[.slice A L.length c, .bool true]) ∧ Below w.heap.size w w') := by
  obtain ⟨c0, c1, c2, c3⟩ := d_cells w d k t (i : Int)
  have hB := bel_alloc (Below.refl w.heap.size w) (dObj d k t (i : Int))
  obtain ⟨gv, bb, hg, hb⟩ := get_two k L
  have e0 : (d == 0) = false := by simpa using hd0
  have e1 : (d == 1) = false := by simpa using hd1
  have e2 : (d == 2) = false := by simpa using hd2
  have hat : atV L (i : Int) = .tuple #[.string x.1, .int .i64 x.2, .bool true] := by unfold atV; rw [if_pos (by omega), show (i : Int).toNat = i from by omega, hx]
  have hil : i < L.length := (List.getElem?_eq_some_iff.1 hx).1
  have h2 : ¬ ((i : Int) < 0) := by omega
  have h3 : (i : Int) < (L.length : Int) := by omega
  have HX := Lib.hid hx
  clear hx
  have hm0 : MapIs (w.alloc (dObj d k t (i : Int))) N L := hm.later hB
  have hr0 : RdP (w.alloc (dObj d k t (i : Int))) A L := Rd.later hr hB
  have GT : Hid (Calls Try.prog 30 #[.slice A L.length c, .string k] (w.alloc (dObj d k t (i : Int))) fun e w' => e = .returned (.tuple #[.int .i64 gv, .bool (!bb)]) ∧ (w.alloc (dObj d k t (i : Int))) = w') := Lib.hid (by
    have := rget_any A L.length c L k (w.alloc (dObj d k t (i : Int))) rfl (by omega) hr0
    rw [rget_get, hg] at this; exact this)
  have MG : Hid (Calls Try.prog 26 #[.pointer (some ⟨N, 0, none⟩), .string k] (w.alloc (dObj d k t (i : Int))) fun e w' => e = .returned (.tuple #[.int .i64 gv, .bool (!bb)]) ∧ Below (w.alloc (dObj d k t (i : Int))).heap.size (w.alloc (dObj d k t (i : Int))) w') := Lib.hid (by
    have := get_any N L k (w.alloc (dObj d k t (i : Int))) hm0 hs
    rw [hg] at this; exact this)
  have MA : Hid (∀ W, Below (w.alloc (dObj d k t (i : Int))).heap.size (w.alloc (dObj d k t (i : Int))) W → Calls Try.prog 16 #[.pointer (some ⟨N, 0, none⟩), .int .i64 (i : Int)] W fun e w' => e = .returned (.tuple #[.string x.1, .int .i64 x.2, .bool true]) ∧ Below (w.alloc (dObj d k t (i : Int))).heap.size (w.alloc (dObj d k t (i : Int))) w') := Lib.hid (fun W hW => by
    have := at_any N L (i : Int) W (hm0.later hW) (by omega)
    rw [hat] at this
    exact this.mono (fun e w' h => ⟨h.1, bel_trans hW h.2⟩))
  have KP0 : Hid (∀ W, Below (w.alloc (dObj d k t (i : Int))).heap.size (w.alloc (dObj d k t (i : Int))) W → W.cell? ⟨w.heap.size, 1, none⟩ = some (.string k) ∧ W.cell? ⟨w.heap.size, 3, none⟩ = some (.int .i64 (i : Int)) ∧ MapIs W N L ∧ RdP W A L) := Lib.hid (fun W hW => ⟨bel_later hW c1, bel_later hW c3, hm0.later hW, Rd.later hr0 hW⟩)
  have HB := Lib.hid hB
  have HS := Lib.hid hs
  have HN := Lib.hid hn
  clear hm hr hs hg hb hat hm0 hr0 hd0 hd1 hd2
  clear hB
  go_enter Try.func10, Try.ntmps10
  go_wp2_with (first
    | (go_at_call 30; (with_reducible refine GT.out.mono ?_); rintro e w1 ⟨rfl, rfl⟩; clear GT; generalize w.alloc (dObj d k t (i : Int)) = V0 at *)
    | (go_at_call 26; (with_reducible refine MG.out.mono ?_); rintro e w2 ⟨rfl, b2⟩; have B2 := Lib.hid b2; have c4 := (KP0.out _ b2).2.1; clear b2)
    | (go_at_call 16; (with_reducible refine (MA.out _ B2.out).mono ?_); rintro e V ⟨rfl, b3⟩; have BV := Lib.hid b3; clear b3)
    | fail)
  have B0 : Hid (Below V.heap.size V V.drew) := Lib.hid (bel_dw (Below.refl _ _))
  have KP : Hid (∀ W, Below V.heap.size V W → W.cell? ⟨w.heap.size, 1, none⟩ = some (.string k) ∧ W.cell? ⟨w.heap.size, 3, none⟩ = some (.int .i64 (i : Int)) ∧ MapIs W N L ∧ RdP W A L) := Lib.hid (fun W hW => KP0.out W (bel_trans BV.out hW))
  have PLC : Hid (∀ W, Below V.heap.size V W → Calls Try.prog 17 #[.pointer (some ⟨N, 0, none⟩), .string k] W fun e w' => e = .returned (.int .i64 ((below ltS k L).length : Int)) ∧ Below V.heap.size V w') := Lib.hid (fun W hW => (place_any N L k W (KP.out W hW).2.2.1 HS.out (by have := HN.out; omega)).mono (fun e w' h => ⟨h.1, bel_trans hW h.2⟩))
  have RPL : Hid (∀ W, Below V.heap.size V W → Calls Try.prog 34 #[.slice A L.length c, .string k] W fun e w' => e = .returned (.int .i64 ((below ltS k L).length : Int)) ∧ Below V.heap.size V w') := Lib.hid (fun W hW => (rplace_any A L.length c L k W rfl (by have := HN.out; omega) (KP.out W hW).2.2.2).mono (fun e w' h => ⟨h.1, bel_trans hW h.2⟩))
  have FRM : Hid (∀ W, Below V.heap.size V W → Calls Try.prog 19 #[.pointer (some ⟨N, 0, none⟩), .string k] W fun e w' => ∃ A1 k1, e = .returned (.slice A1 (fromL k L).length k1) ∧ RdP w' A1 (fromL k L) ∧ Below V.heap.size V w') := Lib.hid (fun W hW => (from_row N L k W (KP.out W hW).2.2.1 HS.out HN.out).mono (fun e w' ⟨a, b, h1, h2, h3, _⟩ => ⟨a, b, h1, h2, bel_trans hW h3⟩))
  have RFR : Hid (∀ W, Below V.heap.size V W → Calls Try.prog 35 #[.slice A L.length c, .string k] W fun e w' => ∃ A1 k1, e = .returned (.slice A1 (fromL k L).length k1) ∧ RdP w' A1 (fromL k L) ∧ Below V.heap.size V w' ∧ Below W.heap.size W w') := Lib.hid (fun W hW => by
    have := rfrom_any A L.length c L k W rfl (by have := HN.out; omega) (KP.out W hW).2.2.2
    rw [from_eq HS.out] at this
    exact this.mono (fun e w' ⟨a, b, h1, h2, h3, _⟩ => ⟨some a, b, h1, h2, bel_trans hW h3, h3⟩))
  have SAM : Hid (∀ W A1 A2 k1 k2, Below V.heap.size V W → RdP W A1 (fromL k L) → RdP W A2 (fromL k L) → Calls Try.prog 13 #[.slice A1 (fromL k L).length k1, .slice A2 (fromL k L).length k2] W fun e w' => e = .returned (.bool true) ∧ Below V.heap.size V w') := Lib.hid (fun W A1 A2 k1 k2 hW h1 h2 => (same_yes A1 A2 (fromL k L).length k1 k2 (fromL k L) W rfl (by rw [← from_eq HS.out]; exact Nat.le_trans (List.length_filter_le _ _) (by have := HN.out; omega)) h1 h2).mono (fun e w' h => ⟨h.1, bel_trans hW h.2⟩))
  clear MG MA KP0 c0 c1 c2 c3 c4 e0 e1 e2
  refine wp_region_held_drew (S := (fun X => Below V.heap.size V X)) (by kernel_rfl) ?_ (fun hHeld => ?_)
  · exact B0.out
  refine wpAnyH_take (i := 0) (oi := { dst := some 90, op := Op.move (Operand.tmp 11), type := 3, pos := "law.go:64", after := #[], guard := none }) (v := ?_) rfl (by kernel_rfl) (by kernel_rfl) (by kernel_rfl) (fun _ _ _ h => h) (Or.inl ⟨by rfl, ?_⟩) hHeld ?_
  rotate_left
  · intro w hSw; clear hSw; go_simp; try with_reducible rfl
  try simp only [Act.put, List.setIfInBounds_toArray, List.set_cons_zero, List.set_cons_succ]
  refine wpAnyH_take (i := 1) (oi := { dst := some 91, op := Op.move (Operand.tmp 8), type := 3, pos := "law.go:64", after := #[], guard := none }) (v := ?_) rfl (by kernel_rfl) (by kernel_rfl) (by kernel_rfl) (fun _ _ _ h => h) (Or.inl ⟨by rfl, ?_⟩) hHeld ?_
  rotate_left
  · intro w hSw; clear hSw; go_simp; try with_reducible rfl
  try simp only [Act.put, List.setIfInBounds_toArray, List.set_cons_zero, List.set_cons_succ]
  refine wpAnyH_take (i := 2) (oi := { dst := some 92, op := Op.binOp BinOp.neq 3 (Operand.tmp 90) (Operand.tmp 91) 3, type := 4, pos := "law.go:64", after := #[{ on := 0, ground := Ground.data }, { on := 1, ground := Ground.data }], guard := none }) (v := ?_) rfl (by kernel_rfl) (by kernel_rfl) (by kernel_rfl) (fun _ _ _ h => h) (Or.inl ⟨by rfl, ?_⟩) hHeld ?_
  rotate_left
  · intro w hSw; clear hSw; go_simp; try with_reducible rfl
  try simp only [Act.put, List.setIfInBounds_toArray, List.set_cons_zero, List.set_cons_succ]
  refine wpAnyH_take (i := 3) (oi := { dst := some 93, op := Op.move (Operand.tmp 92), type := 4, pos := "law.go:64", after := #[{ on := 2, ground := Ground.data }], guard := none }) (v := ?_) rfl (by kernel_rfl) (by kernel_rfl) (by kernel_rfl) (fun _ _ _ h => h) (Or.inl ⟨by rfl, ?_⟩) hHeld ?_
  rotate_left
  · intro w hSw; clear hSw; go_simp; try with_reducible rfl
  try simp only [Act.put, List.setIfInBounds_toArray, List.set_cons_zero, List.set_cons_succ]
  refine wpAnyH_take (i := 4) (oi := { dst := some 94, op := Op.move (Operand.tmp 12), type := 4, pos := "law.go:64", after := #[{ on := 3, ground := Ground.guard }], guard := some (3, false) }) (v := ?_) rfl (by kernel_rfl) (by kernel_rfl) (by kernel_rfl) (fun _ _ _ h => h) (Or.inl ⟨by rfl, ?_⟩) hHeld ?_
  rotate_left
  · intro w hSw; clear hSw; go_simp; try with_reducible rfl
  try simp only [Act.put, List.setIfInBounds_toArray, List.set_cons_zero, List.set_cons_succ]
  refine wpAnyH_take (i := 5) (oi := { dst := some 95, op := Op.move (Operand.tmp 9), type := 4, pos := "law.go:64", after := #[{ on := 3, ground := Ground.guard }], guard := some (3, false) }) (v := ?_) rfl (by kernel_rfl) (by kernel_rfl) (by kernel_rfl) (fun _ _ _ h => h) (Or.inl ⟨by rfl, ?_⟩) hHeld ?_
  rotate_left
  · intro w hSw; clear hSw; go_simp; try with_reducible rfl
  try simp only [Act.put, List.setIfInBounds_toArray, List.set_cons_zero, List.set_cons_succ]
  refine wpAnyH_take (i := 6) (oi := { dst := some 96, op := Op.binOp BinOp.neq 4 (Operand.tmp 94) (Operand.tmp 95) 4, type := 4, pos := "law.go:64", after := #[{ on := 4, ground := Ground.data }, { on := 5, ground := Ground.data }, { on := 3, ground := Ground.guard }], guard := some (3, false) }) (v := ?_) rfl (by kernel_rfl) (by kernel_rfl) (by kernel_rfl) (fun _ _ _ h => h) (Or.inl ⟨by rfl, ?_⟩) hHeld ?_
  rotate_left
  · intro w hSw; clear hSw; go_simp; try with_reducible rfl
  try simp only [Act.put, List.setIfInBounds_toArray, List.set_cons_zero, List.set_cons_succ]
  refine wpAnyH_take (i := 7) (oi := { dst := some 97, op := Op.pick (Operand.tmp 93) (Operand.const (Value.bool true)) (Operand.tmp 96), type := 4, pos := "law.go:64", after := #[{ on := 3, ground := Ground.data }, { on := 6, ground := Ground.data }], guard := none }) (v := ?_) rfl (by kernel_rfl) (by kernel_rfl) (by kernel_rfl) (fun _ _ _ h => h) (Or.inl ⟨by rfl, ?_⟩) hHeld ?_
  rotate_left
  · intro w hSw; clear hSw; go_simp; try with_reducible rfl
  try simp only [Act.put, List.setIfInBounds_toArray, List.set_cons_zero, List.set_cons_succ]
  refine wpAnyH_take (i := 8) (oi := { dst := some 98, op := Op.move (Operand.tmp 97), type := 4, pos := "law.go:64", after := #[{ on := 7, ground := Ground.data }, { on := 3, ground := Ground.chain }], guard := none }) (v := ?_) rfl (by kernel_rfl) (by kernel_rfl) (by kernel_rfl) (fun _ _ _ h => h) (Or.inl ⟨by rfl, ?_⟩) hHeld ?_
  rotate_left
  · intro w hSw; clear hSw; go_simp; try with_reducible rfl
  try simp only [Act.put, List.setIfInBounds_toArray, List.set_cons_zero, List.set_cons_succ]
  refine wpAnyH_take (i := 9) (oi := { dst := some 99, op := Op.move (Operand.tmp 0), type := 23, pos := "law.go:64", after := #[{ on := 8, ground := Ground.guard }], guard := some (8, false) }) (v := ?_) rfl (by kernel_rfl) (by kernel_rfl) (by kernel_rfl) (fun _ _ _ h => h) (Or.inl ⟨by rfl, ?_⟩) hHeld ?_
  rotate_left
  · intro w hSw; clear hSw; go_simp; try with_reducible rfl
  try simp only [Act.put, List.setIfInBounds_toArray, List.set_cons_zero, List.set_cons_succ]
  refine wpAnyH_take (i := 10) (oi := { dst := some 100, op := Op.fieldAddr 29 (Operand.tmp 5) 1, type := 0, pos := "law.go:64", after := #[{ on := 8, ground := Ground.guard }], guard := some (8, false) }) (v := ?_) rfl (by kernel_rfl) (by kernel_rfl) (by kernel_rfl) (fun _ _ _ h => h) (Or.inl ⟨by rfl, ?_⟩) hHeld ?_
  rotate_left
  · intro w hSw; clear hSw; go_simp; try with_reducible rfl
  try simp only [Act.put, List.setIfInBounds_toArray, List.set_cons_zero, List.set_cons_succ]
  refine wpAnyH_take (i := 11) (oi := { dst := some 101, op := Op.load 9 (Operand.tmp 100), type := 9, pos := "law.go:64", after := #[{ on := 10, ground := Ground.data }, { on := 8, ground := Ground.guard }], guard := some (8, false) }) (v := .string k) rfl (by kernel_rfl) (by kernel_rfl) (by kernel_rfl) (fun _ _ _ h => h) (Or.inl ⟨by rfl, ?_⟩) hHeld ?_
  · intro V hV; have hc0 := (KP.out _ hV).1; clear hV; go_simp
  try simp only [Act.put, List.setIfInBounds_toArray, List.set_cons_zero, List.set_cons_succ]
  refine wpAnyH_take (i := 13) (oi := { dst := some 103, op := Op.move (Operand.tmp 1), type := 25, pos := "law.go:64", after := #[{ on := 8, ground := Ground.guard }], guard := some (8, false) }) (v := ?_) rfl (by kernel_rfl) (by kernel_rfl) (by kernel_rfl) (fun _ _ _ h => h) (Or.inl ⟨by rfl, ?_⟩) hHeld ?_
  rotate_left
  · intro w hSw; clear hSw; go_simp; try with_reducible rfl
  try simp only [Act.put, List.setIfInBounds_toArray, List.set_cons_zero, List.set_cons_succ]
  refine wpAnyH_take (i := 14) (oi := { dst := some 104, op := Op.fieldAddr 29 (Operand.tmp 5) 1, type := 0, pos := "law.go:64", after := #[{ on := 8, ground := Ground.guard }], guard := some (8, false) }) (v := ?_) rfl (by kernel_rfl) (by kernel_rfl) (by kernel_rfl) (fun _ _ _ h => h) (Or.inl ⟨by rfl, ?_⟩) hHeld ?_
  rotate_left
  · intro w hSw; clear hSw; go_simp; try with_reducible rfl
  try simp only [Act.put, List.setIfInBounds_toArray, List.set_cons_zero, List.set_cons_succ]
  refine wpAnyH_take (i := 15) (oi := { dst := some 105, op := Op.load 9 (Operand.tmp 104), type := 9, pos := "law.go:64", after := #[{ on := 14, ground := Ground.data }, { on := 8, ground := Ground.guard }], guard := some (8, false) }) (v := .string k) rfl (by kernel_rfl) (by kernel_rfl) (by kernel_rfl) (fun _ _ _ h => h) (Or.inl ⟨by rfl, ?_⟩) hHeld ?_
  · intro V hV; have hc0 := (KP.out _ hV).1; clear hV; go_simp
  try simp only [Act.put, List.setIfInBounds_toArray, List.set_cons_zero, List.set_cons_succ]
  refine wpAnyH_ready (rs := [12]) (by kernel_rfl) (by simp) ?_
  refine AllReadyH.cons (o := { dst := some 102, op := Op.call { callee := Callee.value (Operand.func 17), args := #[Operand.tmp 99, Operand.tmp 101], argTypes := #[23, 9] }, type := 3, pos := "law.go:64", after := #[{ on := 9, ground := Ground.data }, { on := 11, ground := Ground.data }, { on := 8, ground := Ground.chain }, { on := 8, ground := Ground.guard }], guard := some (8, false) }) rfl (fun K hK => ?_) AllReadyH.nil
  go_simp
  go_at_call 17; (with_reducible refine (PLC.out _ B0.out).mono ?_); rintro e w4 ⟨rfl, b4⟩; have B4 := Lib.hid b4; clear b4
  try go_wp2_with fail
  refine hK.out _ _ ?_ (fun hHeld => ?_)
  · exact B4.out
  clear hK K
  try simp only [Act.put, List.setIfInBounds_toArray, List.set_cons_zero, List.set_cons_succ]
  refine wpAnyH_ready (rs := [16]) (by kernel_rfl) (by simp) ?_
  refine AllReadyH.cons (o := { dst := some 106, op := Op.call { callee := Callee.value (Operand.func 34), args := #[Operand.tmp 103, Operand.tmp 105], argTypes := #[25, 9] }, type := 3, pos := "law.go:64", after := #[{ on := 13, ground := Ground.data }, { on := 15, ground := Ground.data }, { on := 12, ground := Ground.chain }, { on := 8, ground := Ground.guard }], guard := some (8, false) }) rfl (fun K hK => ?_) AllReadyH.nil
  go_simp
  go_at_call 34; (with_reducible refine (RPL.out _ B4.out).mono ?_); rintro e w5 ⟨rfl, b5⟩; have B5 := Lib.hid b5; clear b5
  try go_wp2_with fail
  refine hK.out _ _ ?_ (fun hHeld => ?_)
  · exact B5.out
  clear hK K
  try simp only [Act.put, List.setIfInBounds_toArray, List.set_cons_zero, List.set_cons_succ]
  refine wpAnyH_take (i := 17) (oi := { dst := some 107, op := Op.binOp BinOp.neq 3 (Operand.tmp 102) (Operand.tmp 106) 3, type := 4, pos := "law.go:64", after := #[{ on := 12, ground := Ground.data }, { on := 16, ground := Ground.data }, { on := 8, ground := Ground.guard }], guard := some (8, false) }) (v := ?_) rfl (by kernel_rfl) (by kernel_rfl) (by kernel_rfl) (fun _ _ _ h => h) (Or.inl ⟨by rfl, ?_⟩) hHeld ?_
  rotate_left
  · intro w hSw; clear hSw; go_simp; try with_reducible rfl
  try simp only [Act.put, List.setIfInBounds_toArray, List.set_cons_zero, List.set_cons_succ]
  refine wpAnyH_take (i := 18) (oi := { dst := some 108, op := Op.pick (Operand.tmp 98) (Operand.const (Value.bool true)) (Operand.tmp 107), type := 4, pos := "law.go:64", after := #[{ on := 8, ground := Ground.data }, { on := 17, ground := Ground.data }], guard := none }) (v := ?_) rfl (by kernel_rfl) (by kernel_rfl) (by kernel_rfl) (fun _ _ _ h => h) (Or.inl ⟨by rfl, ?_⟩) hHeld ?_
  rotate_left
  · intro w hSw; clear hSw; go_simp; try with_reducible rfl
  try simp only [Act.put, List.setIfInBounds_toArray, List.set_cons_zero, List.set_cons_succ]
  refine wpAnyH_take (i := 19) (oi := { dst := some 109, op := Op.move (Operand.tmp 108), type := 4, pos := "law.go:64", after := #[{ on := 18, ground := Ground.data }, { on := 16, ground := Ground.chain }], guard := none }) (v := ?_) rfl (by kernel_rfl) (by kernel_rfl) (by kernel_rfl) (fun _ _ _ h => h) (Or.inl ⟨by rfl, ?_⟩) hHeld ?_
  rotate_left
  · intro w hSw; clear hSw; go_simp; try with_reducible rfl
  try simp only [Act.put, List.setIfInBounds_toArray, List.set_cons_zero, List.set_cons_succ]
  refine wpAnyH_take (i := 20) (oi := { dst := some 110, op := Op.move (Operand.tmp 0), type := 23, pos := "law.go:64", after := #[{ on := 19, ground := Ground.guard }], guard := some (19, false) }) (v := ?_) rfl (by kernel_rfl) (by kernel_rfl) (by kernel_rfl) (fun _ _ _ h => h) (Or.inl ⟨by rfl, ?_⟩) hHeld ?_
  rotate_left
  · intro w hSw; clear hSw; go_simp; try with_reducible rfl
  try simp only [Act.put, List.setIfInBounds_toArray, List.set_cons_zero, List.set_cons_succ]
  refine wpAnyH_take (i := 21) (oi := { dst := some 111, op := Op.fieldAddr 29 (Operand.tmp 5) 1, type := 0, pos := "law.go:64", after := #[{ on := 19, ground := Ground.guard }], guard := some (19, false) }) (v := ?_) rfl (by kernel_rfl) (by kernel_rfl) (by kernel_rfl) (fun _ _ _ h => h) (Or.inl ⟨by rfl, ?_⟩) hHeld ?_
  rotate_left
  · intro w hSw; clear hSw; go_simp; try with_reducible rfl
  try simp only [Act.put, List.setIfInBounds_toArray, List.set_cons_zero, List.set_cons_succ]
  refine wpAnyH_take (i := 22) (oi := { dst := some 112, op := Op.load 9 (Operand.tmp 111), type := 9, pos := "law.go:64", after := #[{ on := 21, ground := Ground.data }, { on := 19, ground := Ground.guard }], guard := some (19, false) }) (v := .string k) rfl (by kernel_rfl) (by kernel_rfl) (by kernel_rfl) (fun _ _ _ h => h) (Or.inl ⟨by rfl, ?_⟩) hHeld ?_
  · intro V hV; have hc0 := (KP.out _ hV).1; clear hV; go_simp
  try simp only [Act.put, List.setIfInBounds_toArray, List.set_cons_zero, List.set_cons_succ]
  refine wpAnyH_take (i := 24) (oi := { dst := some 114, op := Op.move (Operand.tmp 1), type := 25, pos := "law.go:64", after := #[{ on := 19, ground := Ground.guard }], guard := some (19, false) }) (v := ?_) rfl (by kernel_rfl) (by kernel_rfl) (by kernel_rfl) (fun _ _ _ h => h) (Or.inl ⟨by rfl, ?_⟩) hHeld ?_
  rotate_left
  · intro w hSw; clear hSw; go_simp; try with_reducible rfl
  try simp only [Act.put, List.setIfInBounds_toArray, List.set_cons_zero, List.set_cons_succ]
  refine wpAnyH_take (i := 25) (oi := { dst := some 115, op := Op.fieldAddr 29 (Operand.tmp 5) 1, type := 0, pos := "law.go:64", after := #[{ on := 19, ground := Ground.guard }], guard := some (19, false) }) (v := ?_) rfl (by kernel_rfl) (by kernel_rfl) (by kernel_rfl) (fun _ _ _ h => h) (Or.inl ⟨by rfl, ?_⟩) hHeld ?_
  rotate_left
  · intro w hSw; clear hSw; go_simp; try with_reducible rfl
  try simp only [Act.put, List.setIfInBounds_toArray, List.set_cons_zero, List.set_cons_succ]
  refine wpAnyH_take (i := 26) (oi := { dst := some 116, op := Op.load 9 (Operand.tmp 115), type := 9, pos := "law.go:64", after := #[{ on := 25, ground := Ground.data }, { on := 19, ground := Ground.guard }], guard := some (19, false) }) (v := .string k) rfl (by kernel_rfl) (by kernel_rfl) (by kernel_rfl) (fun _ _ _ h => h) (Or.inl ⟨by rfl, ?_⟩) hHeld ?_
  · intro V hV; have hc0 := (KP.out _ hV).1; clear hV; go_simp
  try simp only [Act.put, List.setIfInBounds_toArray, List.set_cons_zero, List.set_cons_succ]
  refine wpAnyH_ready (rs := [23]) (by kernel_rfl) (by simp) ?_
  refine AllReadyH.cons (o := { dst := some 113, op := Op.call { callee := Callee.value (Operand.func 19), args := #[Operand.tmp 110, Operand.tmp 112], argTypes := #[23, 9] }, type := 25, pos := "law.go:64", after := #[{ on := 20, ground := Ground.data }, { on := 22, ground := Ground.data }, { on := 19, ground := Ground.chain }, { on := 19, ground := Ground.guard }], guard := some (19, false) }) rfl (fun K hK => ?_) AllReadyH.nil
  go_simp
  go_at_call 19; (with_reducible refine (FRM.out _ B5.out).mono ?_); rintro e w6 ⟨A1, k1, rfl, r1, b6⟩; have B6 := Lib.hid b6; have R1 := Lib.hid r1; clear b6 r1
  try go_wp2_with fail
  refine hK.out _ _ ?_ (fun hHeld => ?_)
  · exact B6.out
  clear hK K
  try simp only [Act.put, List.setIfInBounds_toArray, List.set_cons_zero, List.set_cons_succ]
  refine wpAnyH_ready (rs := [27]) (by kernel_rfl) (by simp) ?_
  refine AllReadyH.cons (o := { dst := some 117, op := Op.call { callee := Callee.value (Operand.func 35), args := #[Operand.tmp 114, Operand.tmp 116], argTypes := #[25, 9] }, type := 25, pos := "law.go:64", after := #[{ on := 24, ground := Ground.data }, { on := 26, ground := Ground.data }, { on := 23, ground := Ground.chain }, { on := 19, ground := Ground.guard }], guard := some (19, false) }) rfl (fun K hK => ?_) AllReadyH.nil
  go_simp
  go_at_call 35; (with_reducible refine (RFR.out _ B6.out).mono ?_); rintro e w7 ⟨A2, k2, rfl, r2, b7, b77⟩; have B7 := Lib.hid b7; have R2 := Lib.hid r2; have R1' := Lib.hid (Rd.later R1.out b77); clear b7 r2 b77
  try go_wp2_with fail
  refine hK.out _ _ ?_ (fun hHeld => ?_)
  · exact B7.out
  clear hK K
  try simp only [Act.put, List.setIfInBounds_toArray, List.set_cons_zero, List.set_cons_succ]
  refine wpAnyH_ready (rs := [28]) (by kernel_rfl) (by simp) ?_
  refine AllReadyH.cons (o := { dst := some 118, op := Op.call { callee := Callee.value (Operand.func 13), args := #[Operand.tmp 113, Operand.tmp 117], argTypes := #[25, 25] }, type := 4, pos := "law.go:64", after := #[{ on := 23, ground := Ground.data }, { on := 27, ground := Ground.data }, { on := 27, ground := Ground.chain }, { on := 19, ground := Ground.guard }], guard := some (19, false) }) rfl (fun K hK => ?_) AllReadyH.nil
  go_simp
  go_at_call 13; (with_reducible refine (SAM.out _ _ _ _ _ B7.out R1'.out R2.out).mono ?_); rintro e w8 ⟨rfl, b8⟩; have B8 := Lib.hid b8; clear b8
  try go_wp2_with fail
  refine hK.out _ _ ?_ (fun hHeld => ?_)
  · exact B8.out
  clear hK K
  try simp only [Act.put, List.setIfInBounds_toArray, List.set_cons_zero, List.set_cons_succ]
  refine wpAnyH_take (i := 29) (oi := { dst := some 119, op := Op.unOp UnOp.not 4 (Operand.tmp 118), type := 4, pos := "law.go:64", after := #[{ on := 28, ground := Ground.data }, { on := 19, ground := Ground.guard }], guard := some (19, false) }) (v := ?_) rfl (by kernel_rfl) (by kernel_rfl) (by kernel_rfl) (fun _ _ _ h => h) (Or.inl ⟨by rfl, ?_⟩) hHeld ?_
  rotate_left
  · intro w hSw; clear hSw; go_simp; try with_reducible rfl
  try simp only [Act.put, List.setIfInBounds_toArray, List.set_cons_zero, List.set_cons_succ]
  refine wpAnyH_take (i := 30) (oi := { dst := some 120, op := Op.pick (Operand.tmp 109) (Operand.const (Value.bool true)) (Operand.tmp 119), type := 4, pos := "law.go:64", after := #[{ on := 19, ground := Ground.data }, { on := 29, ground := Ground.data }], guard := none }) (v := ?_) rfl (by kernel_rfl) (by kernel_rfl) (by kernel_rfl) (fun _ _ _ h => h) (Or.inl ⟨by rfl, ?_⟩) hHeld ?_
  rotate_left
  · intro w hSw; clear hSw; go_simp; try with_reducible rfl
  try simp only [Act.put, List.setIfInBounds_toArray, List.set_cons_zero, List.set_cons_succ]
  refine wpAnyH_done (by kernel_rfl) ?_ _
  have c9 := (KP.out _ B8.out).2.1
  have hfin := Lib.hid (bel_trans HB.out (bel_trans BV.out B8.out))
  obtain ⟨bx, ox, rfl, hlx, f0, f1⟩ := rdp_get (KP.out _ B8.out).2.2.2 HX.out
  have f2 : w8.cell? ⟨bx, ox + i * 2 + 1, none⟩ = some (.int .i64 x.2) := f1
  clear PLC RPL FRM RFR SAM
  go_wp2_with fail
  go_quiet (fail)
  go_wp2
  exact bodyPost_ret (v := .tuple #[.slice (some ⟨bx, ox, none⟩) L.length c, .bool true]) (by simp [results, Try.results10, go_sem]) rfl ⟨rfl, bel_drewN hfin.out _⟩
end Go.Proofs.Ytfgohbhacldlmaa
