/- Texts of the proof, one behind the other. -/
import Derived.Test.YtelpkajlejbbgaaGreatDoorTd01
import Derived.Test.YtelpkajlejbbgaaGreatDoorTd18
import Derived.Test.YtelpkajlejbbgaaGreatDoorTd15
set_option linter.unusedVariables false
set_option linter.unusedSimpArgs false
namespace Go.Proofs.YtelpkajlejbbgaaGreatDoor
open Go.RowKit Go.Maps
set_option maxHeartbeats 2000000 in
set_option maxRecDepth 100000 in
theorem pop_1 (B b : Nat) (n : Int) (key too : ByteArray) (A : Option Addr) (m c : Nat) (l : List UInt8) (w : World) (hg : GB B w) (hkey : key.size ≤ 900000) (htoo : too.size ≤ 900000) (hn : -2147483647 ≤ n ∧ n ≤ 2147483647) (hD : Bd 59 B b l w) (hbs : b < w.heap.size) (hl : l.length ≤ 1048576) :
    Calls Tryz.prog 25 #[.pointer (some ⟨b, 0, none⟩), .agg #[.int .u8 1, .string key, .string too, .int .i64 n, .slice A m c]] w fun e w' => e = .returned (.tuple #[]) ∧ PK B b (l ++ lineL [wGet, tokB key]) w w' := by
  have HG := Lib.hid hg
  have HS := Lib.hid (And.intro hkey htoo)
  have HN := Lib.hid hn
  have HI := Lib.hid (itoa_sz n (by omega) (by omega))
  have HL := Lib.hid hl
  have HBS := Lib.hid hbs
  have HP0 := Lib.hid (PK.start hD)
  clear hg hkey htoo hn hD hbs hl
  obtain ⟨W0, hW0⟩ : ∃ W0, W0 = w.alloc (.cells #[.int .u8 1, .string key, .string too, .int .i64 n, .slice A m c] 47) := ⟨_, rfl⟩
  have B0 := Lib.hid (show Below w.heap.size w W0 by rw [hW0]; exact alb w _)
  have Z0 := Lib.hid (show W0.heap[w.heap.size]? = some (.cells #[.int .u8 1, .string key, .string too, .int .i64 n, .slice A m c] 47) by rw [hW0]; exact heap_alloc_new w _)
  obtain ⟨c0, c1, c2, c3, c4⟩ := cells5 Z0.out
  go_enter Tryz.func25, Tryz.ntmps25
  go_upto_region 1 with fail
  rw [← hW0]
  clear hW0
  go_wp2_with (first
    | (go_at_call 49; ((with_reducible refine (itoa_any n (by have := HN.out; omega) (by have := HN.out; omega) _ (HG.out.later B0.out).gw).mono ?_); rintro e w1 ⟨rfl, b1⟩; have B1 := Lib.hid (bel_trans B0.out b1); have Z1 := Lib.hid (keep_bel b1 Z0.out); obtain ⟨c0, c1, c2, c3, c4⟩ := cells5 Z1.out; clear b1))
    | (go_at_call 19; ((with_reducible refine (token_any key (by have := HS.out.1; omega) _).mono ?_); rintro e w2 ⟨rfl, b1⟩; have B2 := Lib.hid (bel_trans B1.out b1); have Z2 := Lib.hid (keep_bel b1 Z1.out); obtain ⟨c0, c1, c2, c3, c4⟩ := cells5 Z2.out; clear b1))
    | (go_at_call 24; ((refine (line_any B b _ 2 2 [wGet, tokB key] l _ rfl (by omega) (WB.lit w2 #[.string wGet, .string (tokB key)] [wGet, tokB key] rfl) (HP0.out.later (bel_alloc B2.out _) HG.out.le).d (Nat.le_trans HG.out.le (bel_alloc B2.out _).size) HL.out (by intro x hx; simp only [List.mem_cons, List.not_mem_nil, or_false] at hx; rcases hx with rfl | rfl <;> first | decide | exact tok_sz HS.out.1 ) (by have := HBS.out; have := B2.out.size; omega)).mono ?_); rintro e w9 ⟨rfl, p2⟩; have P2 := Lib.hid ((HP0.out.later (bel_alloc B2.out _) HG.out.le).then p2); clear p2))
    | fail)
  go_end0
  exact ⟨rfl, P2.out⟩
set_option maxHeartbeats 2000000 in
set_option maxRecDepth 100000 in
theorem pop_3 (B b : Nat) (n : Int) (key too : ByteArray) (A : Option Addr) (m c : Nat) (l : List UInt8) (w : World) (hg : GB B w) (hkey : key.size ≤ 900000) (htoo : too.size ≤ 900000) (hn : -2147483647 ≤ n ∧ n ≤ 2147483647) (hD : Bd 59 B b l w) (hbs : b < w.heap.size) (hl : l.length ≤ 1048576) :
    Calls Tryz.prog 25 #[.pointer (some ⟨b, 0, none⟩), .agg #[.int .u8 3, .string key, .string too, .int .i64 n, .slice A m c]] w fun e w' => e = .returned (.tuple #[]) ∧ PK B b (l ++ lineL [wLook, tokB key, tokB too, itoaB n]) w w' := by
  have HG := Lib.hid hg
  have HS := Lib.hid (And.intro hkey htoo)
  have HN := Lib.hid hn
  have HI := Lib.hid (itoa_sz n (by omega) (by omega))
  have HL := Lib.hid hl
  have HBS := Lib.hid hbs
  have HP0 := Lib.hid (PK.start hD)
  clear hg hkey htoo hn hD hbs hl
  obtain ⟨W0, hW0⟩ : ∃ W0, W0 = w.alloc (.cells #[.int .u8 3, .string key, .string too, .int .i64 n, .slice A m c] 47) := ⟨_, rfl⟩
  have B0 := Lib.hid (show Below w.heap.size w W0 by rw [hW0]; exact alb w _)
  have Z0 := Lib.hid (show W0.heap[w.heap.size]? = some (.cells #[.int .u8 3, .string key, .string too, .int .i64 n, .slice A m c] 47) by rw [hW0]; exact heap_alloc_new w _)
  obtain ⟨c0, c1, c2, c3, c4⟩ := cells5 Z0.out
  go_enter Tryz.func25, Tryz.ntmps25
  go_upto_region 1 with fail
  rw [← hW0]
  clear hW0
  go_upto_region 6 with (first
    | (go_at_call 49; ((with_reducible refine (itoa_any n (by have := HN.out; omega) (by have := HN.out; omega) _ (HG.out.later B0.out).gw).mono ?_); rintro e w1 ⟨rfl, b1⟩; have B1 := Lib.hid (bel_trans B0.out b1); have Z1 := Lib.hid (keep_bel b1 Z0.out); obtain ⟨c0, c1, c2, c3, c4⟩ := cells5 Z1.out; clear b1))
    | fail)
  clear c0 c1 c2 c3 c4
  refine wp_region_held_drew (S := (fun V : World => V.heap[w.heap.size]? = some (.cells #[.int .u8 3, .string key, .string too, .int .i64 n, .slice A m c] 47))) (by kernel_rfl) ?_ (fun hHeld => ?_)
  · exact Z1.out
  have HHeld := Lib.hid hHeld; clear hHeld
  refine wT (i := 0) (oi := { dst := some 22, op := Op.move (Operand.tmp 0), type := 53, pos := "print.go:106", after := #[], guard := none }) (v := ?_) rfl (Or.inl ⟨by rfl, ?_⟩) HHeld.out ?_
  rotate_left
  · intro w hSw; clear hSw; go_simp; try with_reducible rfl
  try simp only [pu, pn, s1, s2, s3]
  refine wT (i := 1) (oi := { dst := some 23, op := Op.fieldAddr 47 (Operand.tmp 3) 1, type := 0, pos := "print.go:106", after := #[], guard := none }) (v := ?_) rfl (Or.inl ⟨by rfl, ?_⟩) HHeld.out ?_
  rotate_left
  · intro w hSw; clear hSw; go_simp; try with_reducible rfl
  try simp only [pu, pn, s1, s2, s3]
  refine wT (i := 2) (oi := { dst := some 24, op := Op.load 9 (Operand.tmp 23), type := 9, pos := "print.go:106", after := #[{ on := 1, ground := Ground.data }], guard := none }) (v := (.string key : Value)) rfl (Or.inl ⟨by rfl, ?_⟩) HHeld.out ?_
  · intro V hV; have hc0 := cellh hV (i := 1) rfl; clear hV; go_simp
  try simp only [pu, pn, s1, s2, s3]
  refine wT (i := 4) (oi := { dst := some 26, op := Op.fieldAddr 47 (Operand.tmp 3) 2, type := 0, pos := "print.go:106", after := #[], guard := none }) (v := ?_) rfl (Or.inl ⟨by rfl, ?_⟩) HHeld.out ?_
  rotate_left
  · intro w hSw; clear hSw; go_simp; try with_reducible rfl
  try simp only [pu, pn, s1, s2, s3]
  refine wT (i := 5) (oi := { dst := some 27, op := Op.load 9 (Operand.tmp 26), type := 9, pos := "print.go:106", after := #[{ on := 4, ground := Ground.data }], guard := none }) (v := (.string too : Value)) rfl (Or.inl ⟨by rfl, ?_⟩) HHeld.out ?_
  · intro V hV; have hc0 := cellh hV (i := 2) rfl; clear hV; go_simp
  try simp only [pu, pn, s1, s2, s3]
  refine wT (i := 7) (oi := { dst := some 29, op := Op.move (Operand.tmp 4), type := 9, pos := "print.go:106", after := #[], guard := none }) (v := ?_) rfl (Or.inl ⟨by rfl, ?_⟩) HHeld.out ?_
  rotate_left
  · intro w hSw; clear hSw; go_simp; try with_reducible rfl
  try simp only [pu, pn, s1, s2, s3]
  refine wpAnyH_ready (rs := [3]) (by kernel_rfl) (by simp) ?_
  refine AllReadyH.cons (o := { dst := some 25, op := Op.call { callee := Callee.value (Operand.func 19), args := #[Operand.tmp 24], argTypes := #[9] }, type := 9, pos := "print.go:106", after := #[{ on := 2, ground := Ground.data }], guard := none }) rfl (fun K hK => ?_) AllReadyH.nil
  go_simp
  go_at_call 19; ((with_reducible refine (token_any key (by have := HS.out.1; omega) _).mono ?_); rintro e w2 ⟨rfl, bb⟩; have B2 := Lib.hid (bel_trans B1.out (bel_dr bb)); have Z2 := Lib.hid (keep_bel bb HHeld.out); clear bb)
  refine hK.out _ _ ?_ (fun hHeld => ?_)
  · exact Z2.out
  clear HHeld; have HHeld := Lib.hid hHeld; clear hHeld
  clear hK K
  try simp only [pu, pn, s1, s2, s3]
  refine wpAnyH_ready (rs := [6]) (by kernel_rfl) (by simp) ?_
  refine AllReadyH.cons (o := { dst := some 28, op := Op.call { callee := Callee.value (Operand.func 19), args := #[Operand.tmp 27], argTypes := #[9] }, type := 9, pos := "print.go:106", after := #[{ on := 5, ground := Ground.data }, { on := 3, ground := Ground.chain }], guard := none }) rfl (fun K hK => ?_) AllReadyH.nil
  go_simp
  go_at_call 19; ((with_reducible refine (token_any too (by have := HS.out.2; omega) _).mono ?_); rintro e w3 ⟨rfl, bb⟩; have B3 := Lib.hid (bel_trans B2.out (bb)); have Z3 := Lib.hid (keep_bel bb HHeld.out); clear bb)
  refine hK.out _ _ ?_ (fun hHeld => ?_)
  · exact Z3.out
  clear HHeld; have HHeld := Lib.hid hHeld; clear hHeld
  clear hK K
  try simp only [pu, pn, s1, s2, s3]
  refine wpAnyH_ready (rs := [8]) (by kernel_rfl) (by simp) ?_
  refine AllReadyH.cons (o := { dst := some 30, op := Op.buildSlice 83 4 #[(0, Operand.const (Value.string { data := #[108, 111, 111, 107] })), (1, Operand.tmp 25), (2, Operand.tmp 28), (3, Operand.tmp 29)], type := 83, pos := "print.go:106", after := #[{ on := 3, ground := Ground.data }, { on := 6, ground := Ground.data }, { on := 7, ground := Ground.data }], guard := none }) rfl (fun K hK => ?_) AllReadyH.nil
  go_simp
  refine hK.out _ _ ?_ (fun hHeld => ?_)
  · exact keep_bel (alb _ _) HHeld.out
  clear HHeld; have HHeld := Lib.hid hHeld; clear hHeld
  clear hK K
  try simp only [pu, pn, s1, s2, s3]
  refine wpAnyH_ready (rs := [9]) (by kernel_rfl) (by simp) ?_
  refine AllReadyH.cons (o := { dst := some 31, op := Op.call { callee := Callee.value (Operand.func 24), args := #[Operand.tmp 22, Operand.tmp 30], argTypes := #[53, 83] }, type := 0, pos := "print.go:106", after := #[{ on := 0, ground := Ground.data }, { on := 8, ground := Ground.data }, { on := 6, ground := Ground.chain }], guard := none }) rfl (fun K hK => ?_) AllReadyH.nil
  go_simp
  go_at_call 24; ((refine (line_any B b _ 4 4 [wLook, tokB key, tokB too, itoaB n] l _ rfl (by omega) (WB.lit w3 #[.string wLook, .string (tokB key), .string (tokB too), .string (itoaB n)] [wLook, tokB key, tokB too, itoaB n] rfl) (HP0.out.later (bel_alloc B3.out _) HG.out.le).d (Nat.le_trans HG.out.le (bel_alloc B3.out _).size) HL.out (by intro x hx; simp only [List.mem_cons, List.not_mem_nil, or_false] at hx; rcases hx with rfl | rfl | rfl | rfl <;> first | decide | exact tok_sz HS.out.1 | exact tok_sz HS.out.2 | (have := HI.out; omega) ) (by have := HBS.out; have := B3.out.size; omega)).mono ?_); rintro e w9 ⟨rfl, p2⟩; have P2 := Lib.hid ((HP0.out.later (bel_alloc B3.out _) HG.out.le).then p2))
  refine hK.out _ _ ?_ (fun hHeld => ?_)
  · exact ok_keep p2.o HHeld.out (by have := HBS.out; omega) (by decide)
  clear HHeld; have HHeld := Lib.hid hHeld; clear hHeld
  clear hK K
  try simp only [pu, pn, s1, s2, s3]
  refine wpAnyH_done (by kernel_rfl) ?_ _
  clear HHeld
  try go_wp2
  go_end0
  exact ⟨rfl, P2.out⟩
set_option maxHeartbeats 2000000 in
set_option maxRecDepth 100000 in
theorem pop_4 (B b : Nat) (n : Int) (key too : ByteArray) (A : Option Addr) (m c : Nat) (l : List UInt8) (w : World) (hg : GB B w) (hkey : key.size ≤ 900000) (htoo : too.size ≤ 900000) (hn : -2147483647 ≤ n ∧ n ≤ 2147483647) (hD : Bd 59 B b l w) (hbs : b < w.heap.size) (hl : l.length ≤ 1048576) :
    Calls Tryz.prog 25 #[.pointer (some ⟨b, 0, none⟩), .agg #[.int .u8 4, .string key, .string too, .int .i64 n, .slice A m c]] w fun e w' => e = .returned (.tuple #[]) ∧ PK B b (l ++ lineL [wOpen, tokB key, tokB too]) w w' := by
  have HG := Lib.hid hg
  have HS := Lib.hid (And.intro hkey htoo)
  have HN := Lib.hid hn
  have HI := Lib.hid (itoa_sz n (by omega) (by omega))
  have HL := Lib.hid hl
  have HBS := Lib.hid hbs
  have HP0 := Lib.hid (PK.start hD)
  clear hg hkey htoo hn hD hbs hl
  obtain ⟨W0, hW0⟩ : ∃ W0, W0 = w.alloc (.cells #[.int .u8 4, .string key, .string too, .int .i64 n, .slice A m c] 47) := ⟨_, rfl⟩
  have B0 := Lib.hid (show Below w.heap.size w W0 by rw [hW0]; exact alb w _)
  have Z0 := Lib.hid (show W0.heap[w.heap.size]? = some (.cells #[.int .u8 4, .string key, .string too, .int .i64 n, .slice A m c] 47) by rw [hW0]; exact heap_alloc_new w _)
  obtain ⟨c0, c1, c2, c3, c4⟩ := cells5 Z0.out
  go_enter Tryz.func25, Tryz.ntmps25
  go_upto_region 1 with fail
  rw [← hW0]
  clear hW0
  go_upto_region 8 with (first
    | (go_at_call 49; ((with_reducible refine (itoa_any n (by have := HN.out; omega) (by have := HN.out; omega) _ (HG.out.later B0.out).gw).mono ?_); rintro e w1 ⟨rfl, b1⟩; have B1 := Lib.hid (bel_trans B0.out b1); have Z1 := Lib.hid (keep_bel b1 Z0.out); obtain ⟨c0, c1, c2, c3, c4⟩ := cells5 Z1.out; clear b1))
    | fail)
  clear c0 c1 c2 c3 c4
  refine wp_region_held_drew (S := (fun V : World => V.heap[w.heap.size]? = some (.cells #[.int .u8 4, .string key, .string too, .int .i64 n, .slice A m c] 47))) (by kernel_rfl) ?_ (fun hHeld => ?_)
  · exact Z1.out
  have HHeld := Lib.hid hHeld; clear hHeld
  refine wT (i := 0) (oi := { dst := some 34, op := Op.move (Operand.tmp 0), type := 53, pos := "print.go:108", after := #[], guard := none }) (v := ?_) rfl (Or.inl ⟨by rfl, ?_⟩) HHeld.out ?_
  rotate_left
  · intro w hSw; clear hSw; go_simp; try with_reducible rfl
  try simp only [pu, pn, s1, s2, s3]
  refine wT (i := 1) (oi := { dst := some 35, op := Op.fieldAddr 47 (Operand.tmp 3) 1, type := 0, pos := "print.go:108", after := #[], guard := none }) (v := ?_) rfl (Or.inl ⟨by rfl, ?_⟩) HHeld.out ?_
  rotate_left
  · intro w hSw; clear hSw; go_simp; try with_reducible rfl
  try simp only [pu, pn, s1, s2, s3]
  refine wT (i := 2) (oi := { dst := some 36, op := Op.load 9 (Operand.tmp 35), type := 9, pos := "print.go:108", after := #[{ on := 1, ground := Ground.data }], guard := none }) (v := (.string key : Value)) rfl (Or.inl ⟨by rfl, ?_⟩) HHeld.out ?_
  · intro V hV; have hc0 := cellh hV (i := 1) rfl; clear hV; go_simp
  try simp only [pu, pn, s1, s2, s3]
  refine wT (i := 4) (oi := { dst := some 38, op := Op.fieldAddr 47 (Operand.tmp 3) 2, type := 0, pos := "print.go:108", after := #[], guard := none }) (v := ?_) rfl (Or.inl ⟨by rfl, ?_⟩) HHeld.out ?_
  rotate_left
  · intro w hSw; clear hSw; go_simp; try with_reducible rfl
  try simp only [pu, pn, s1, s2, s3]
  refine wT (i := 5) (oi := { dst := some 39, op := Op.load 9 (Operand.tmp 38), type := 9, pos := "print.go:108", after := #[{ on := 4, ground := Ground.data }], guard := none }) (v := (.string too : Value)) rfl (Or.inl ⟨by rfl, ?_⟩) HHeld.out ?_
  · intro V hV; have hc0 := cellh hV (i := 2) rfl; clear hV; go_simp
  try simp only [pu, pn, s1, s2, s3]
  refine wpAnyH_ready (rs := [3]) (by kernel_rfl) (by simp) ?_
  refine AllReadyH.cons (o := { dst := some 37, op := Op.call { callee := Callee.value (Operand.func 19), args := #[Operand.tmp 36], argTypes := #[9] }, type := 9, pos := "print.go:108", after := #[{ on := 2, ground := Ground.data }], guard := none }) rfl (fun K hK => ?_) AllReadyH.nil
  go_simp
  go_at_call 19; ((with_reducible refine (token_any key (by have := HS.out.1; omega) _).mono ?_); rintro e w2 ⟨rfl, bb⟩; have B2 := Lib.hid (bel_trans B1.out (bel_dr bb)); have Z2 := Lib.hid (keep_bel bb HHeld.out); clear bb)
  refine hK.out _ _ ?_ (fun hHeld => ?_)
  · exact Z2.out
  clear HHeld; have HHeld := Lib.hid hHeld; clear hHeld
  clear hK K
  try simp only [pu, pn, s1, s2, s3]
  refine wpAnyH_ready (rs := [6]) (by kernel_rfl) (by simp) ?_
  refine AllReadyH.cons (o := { dst := some 40, op := Op.call { callee := Callee.value (Operand.func 19), args := #[Operand.tmp 39], argTypes := #[9] }, type := 9, pos := "print.go:108", after := #[{ on := 5, ground := Ground.data }, { on := 3, ground := Ground.chain }], guard := none }) rfl (fun K hK => ?_) AllReadyH.nil
  go_simp
  go_at_call 19; ((with_reducible refine (token_any too (by have := HS.out.2; omega) _).mono ?_); rintro e w3 ⟨rfl, bb⟩; have B3 := Lib.hid (bel_trans B2.out (bb)); have Z3 := Lib.hid (keep_bel bb HHeld.out); clear bb)
  refine hK.out _ _ ?_ (fun hHeld => ?_)
  · exact Z3.out
  clear HHeld; have HHeld := Lib.hid hHeld; clear hHeld
  clear hK K
  try simp only [pu, pn, s1, s2, s3]
  refine wpAnyH_ready (rs := [7]) (by kernel_rfl) (by simp) ?_
  refine AllReadyH.cons (o := { dst := some 41, op := Op.buildSlice 83 3 #[(0, Operand.const (Value.string { data := #[111, 112, 101, 110] })), (1, Operand.tmp 37), (2, Operand.tmp 40)], type := 83, pos := "print.go:108", after := #[{ on := 3, ground := Ground.data }, { on := 6, ground := Ground.data }], guard := none }) rfl (fun K hK => ?_) AllReadyH.nil
  go_simp
  refine hK.out _ _ ?_ (fun hHeld => ?_)
  · exact keep_bel (alb _ _) HHeld.out
  clear HHeld; have HHeld := Lib.hid hHeld; clear hHeld
  clear hK K
  try simp only [pu, pn, s1, s2, s3]
  refine wpAnyH_ready (rs := [8]) (by kernel_rfl) (by simp) ?_
  refine AllReadyH.cons (o := { dst := some 42, op := Op.call { callee := Callee.value (Operand.func 24), args := #[Operand.tmp 34, Operand.tmp 41], argTypes := #[53, 83] }, type := 0, pos := "print.go:108", after := #[{ on := 0, ground := Ground.data }, { on := 7, ground := Ground.data }, { on := 6, ground := Ground.chain }], guard := none }) rfl (fun K hK => ?_) AllReadyH.nil
  go_simp
  go_at_call 24; ((refine (line_any B b _ 3 3 [wOpen, tokB key, tokB too] l _ rfl (by omega) (WB.lit w3 #[.string wOpen, .string (tokB key), .string (tokB too)] [wOpen, tokB key, tokB too] rfl) (HP0.out.later (bel_alloc B3.out _) HG.out.le).d (Nat.le_trans HG.out.le (bel_alloc B3.out _).size) HL.out (by intro x hx; simp only [List.mem_cons, List.not_mem_nil, or_false] at hx; rcases hx with rfl | rfl | rfl <;> first | decide | exact tok_sz HS.out.1 | exact tok_sz HS.out.2 ) (by have := HBS.out; have := B3.out.size; omega)).mono ?_); rintro e w9 ⟨rfl, p2⟩; have P2 := Lib.hid ((HP0.out.later (bel_alloc B3.out _) HG.out.le).then p2))
  refine hK.out _ _ ?_ (fun hHeld => ?_)
  · exact ok_keep p2.o HHeld.out (by have := HBS.out; omega) (by decide)
  clear HHeld; have HHeld := Lib.hid hHeld; clear hHeld
  clear hK K
  try simp only [pu, pn, s1, s2, s3]
  refine wpAnyH_done (by kernel_rfl) ?_ _
  clear HHeld
  try go_wp2
  go_end0
  exact ⟨rfl, P2.out⟩
set_option maxHeartbeats 2000000 in
set_option maxRecDepth 100000 in
theorem pop_5 (B b : Nat) (n : Int) (key too : ByteArray) (A : Option Addr) (m c : Nat) (l : List UInt8) (w : World) (hg : GB B w) (hkey : key.size ≤ 900000) (htoo : too.size ≤ 900000) (hn : -2147483647 ≤ n ∧ n ≤ 2147483647) (hD : Bd 59 B b l w) (hbs : b < w.heap.size) (hl : l.length ≤ 1048576) :
    Calls Tryz.prog 25 #[.pointer (some ⟨b, 0, none⟩), .agg #[.int .u8 5, .string key, .string too, .int .i64 n, .slice A m c]] w fun e w' => e = .returned (.tuple #[]) ∧ PK B b (l ++ lineL [wNext, itoaB n]) w w' := by
  have HG := Lib.hid hg
  have HS := Lib.hid (And.intro hkey htoo)
  have HN := Lib.hid hn
  have HI := Lib.hid (itoa_sz n (by omega) (by omega))
  have HL := Lib.hid hl
  have HBS := Lib.hid hbs
  have HP0 := Lib.hid (PK.start hD)
  clear hg hkey htoo hn hD hbs hl
  obtain ⟨W0, hW0⟩ : ∃ W0, W0 = w.alloc (.cells #[.int .u8 5, .string key, .string too, .int .i64 n, .slice A m c] 47) := ⟨_, rfl⟩
  have B0 := Lib.hid (show Below w.heap.size w W0 by rw [hW0]; exact alb w _)
  have Z0 := Lib.hid (show W0.heap[w.heap.size]? = some (.cells #[.int .u8 5, .string key, .string too, .int .i64 n, .slice A m c] 47) by rw [hW0]; exact heap_alloc_new w _)
  obtain ⟨c0, c1, c2, c3, c4⟩ := cells5 Z0.out
  go_enter Tryz.func25, Tryz.ntmps25
  go_upto_region 1 with fail
  rw [← hW0]
  clear hW0
  go_wp2_with (first
    | (go_at_call 49; ((with_reducible refine (itoa_any n (by have := HN.out; omega) (by have := HN.out; omega) _ (HG.out.later B0.out).gw).mono ?_); rintro e w1 ⟨rfl, b1⟩; have B1 := Lib.hid (bel_trans B0.out b1); have Z1 := Lib.hid (keep_bel b1 Z0.out); obtain ⟨c0, c1, c2, c3, c4⟩ := cells5 Z1.out; clear b1))
    | (go_at_call 24; ((refine (line_any B b _ 2 2 [wNext, itoaB n] l _ rfl (by omega) (WB.lit w1 #[.string wNext, .string (itoaB n)] [wNext, itoaB n] rfl) (HP0.out.later (bel_alloc B1.out _) HG.out.le).d (Nat.le_trans HG.out.le (bel_alloc B1.out _).size) HL.out (by intro x hx; simp only [List.mem_cons, List.not_mem_nil, or_false] at hx; rcases hx with rfl | rfl <;> first | decide | (have := HI.out; omega) ) (by have := HBS.out; have := B1.out.size; omega)).mono ?_); rintro e w9 ⟨rfl, p2⟩; have P2 := Lib.hid ((HP0.out.later (bel_alloc B1.out _) HG.out.le).then p2); clear p2))
    | fail)
  go_end0
  exact ⟨rfl, P2.out⟩
set_option maxHeartbeats 2000000 in
set_option maxRecDepth 100000 in
theorem pop_6 (B b : Nat) (n : Int) (key too : ByteArray) (A : Option Addr) (m c : Nat) (l : List UInt8) (w : World) (hg : GB B w) (hkey : key.size ≤ 900000) (htoo : too.size ≤ 900000) (hn : -2147483647 ≤ n ∧ n ≤ 2147483647) (hD : Bd 59 B b l w) (hbs : b < w.heap.size) (hl : l.length ≤ 1048576) :
    Calls Tryz.prog 25 #[.pointer (some ⟨b, 0, none⟩), .agg #[.int .u8 6, .string key, .string too, .int .i64 n, .slice A m c]] w fun e w' => e = .returned (.tuple #[]) ∧ PK B b (l ++ lineL [wClose, itoaB n]) w w' := by
  have HG := Lib.hid hg
  have HS := Lib.hid (And.intro hkey htoo)
  have HN := Lib.hid hn
  have HI := Lib.hid (itoa_sz n (by omega) (by omega))
  have HL := Lib.hid hl
  have HBS := Lib.hid hbs
  have HP0 := Lib.hid (PK.start hD)
  clear hg hkey htoo hn hD hbs hl
  obtain ⟨W0, hW0⟩ : ∃ W0, W0 = w.alloc (.cells #[.int .u8 6, .string key, .string too, .int .i64 n, .slice A m c] 47) := ⟨_, rfl⟩
  have B0 := Lib.hid (show Below w.heap.size w W0 by rw [hW0]; exact alb w _)
  have Z0 := Lib.hid (show W0.heap[w.heap.size]? = some (.cells #[.int .u8 6, .string key, .string too, .int .i64 n, .slice A m c] 47) by rw [hW0]; exact heap_alloc_new w _)
  obtain ⟨c0, c1, c2, c3, c4⟩ := cells5 Z0.out
  go_enter Tryz.func25, Tryz.ntmps25
  go_upto_region 1 with fail
  rw [← hW0]
  clear hW0
  go_wp2_with (first
    | (go_at_call 49; ((with_reducible refine (itoa_any n (by have := HN.out; omega) (by have := HN.out; omega) _ (HG.out.later B0.out).gw).mono ?_); rintro e w1 ⟨rfl, b1⟩; have B1 := Lib.hid (bel_trans B0.out b1); have Z1 := Lib.hid (keep_bel b1 Z0.out); obtain ⟨c0, c1, c2, c3, c4⟩ := cells5 Z1.out; clear b1))
    | (go_at_call 24; ((refine (line_any B b _ 2 2 [wClose, itoaB n] l _ rfl (by omega) (WB.lit w1 #[.string wClose, .string (itoaB n)] [wClose, itoaB n] rfl) (HP0.out.later (bel_alloc B1.out _) HG.out.le).d (Nat.le_trans HG.out.le (bel_alloc B1.out _).size) HL.out (by intro x hx; simp only [List.mem_cons, List.not_mem_nil, or_false] at hx; rcases hx with rfl | rfl <;> first | decide | (have := HI.out; omega) ) (by have := HBS.out; have := B1.out.size; omega)).mono ?_); rintro e w9 ⟨rfl, p2⟩; have P2 := Lib.hid ((HP0.out.later (bel_alloc B1.out _) HG.out.le).then p2); clear p2))
    | fail)
  go_end0
  exact ⟨rfl, P2.out⟩
end Go.Proofs.YtelpkajlejbbgaaGreatDoor
namespace Go.Proofs.YtelpkajlejbbgaaGreatDoor
open Go.RowKit Go.Maps
def msL (ms : List M) : List UInt8 := ms.flatMap (fun m => lineL (mWords m))
theorem msL_take (ms : List M) (k : Nat) : (msL (ms.take k)).length ≤ (msL ms).length := by
  have e : msL ms = msL (ms.take k) ++ msL (ms.drop k) := by
    unfold msL
    rw [← List.flatMap_append, List.take_append_drop]
  rw [e, List.length_append]
  omega
theorem msL_next {ms : List M} {k : Nat} {m : M} (h : ms[k]? = some m) : msL (ms.take (k + 1)) = msL (ms.take k) ++ lineL (mWords m) := by
  unfold msL
  rw [List.take_add_one, h, List.flatMap_append]
  simp
set_option maxHeartbeats 4000000 in
set_option maxRecDepth 100000 in
theorem pop_2 (B b : Nat) (n : Int) (key too : ByteArray) (A : Option Addr) (m c : Nat) (ms : List M) (l : List UInt8) (w : World) (hg : GB B w) (hn : -2147483647 ≤ n ∧ n ≤ 2147483647) (hm : ms.length = m) (hm9 : m ≤ 900000) (hA : ∀ V, Below B w V → EM.Rd V A ms) (hms : ∀ x ∈ ms, MOk x) (hD : Bd 59 B b l w) (hbs : b < w.heap.size) (hl : ((l ++ lineL [wSend, itoaB m]) ++ msL ms).length ≤ 1048576) :
    Calls Tryz.prog 25 #[.pointer (some ⟨b, 0, none⟩), .agg #[.int .u8 2, .string key, .string too, .int .i64 n, .slice A m c]] w fun e w' => e = .returned (.tuple #[]) ∧ PK B b ((l ++ lineL [wSend, itoaB m]) ++ msL ms) w w' := by
  have HG := Lib.hid hg
  have HN := Lib.hid hn
  have HM := Lib.hid (And.intro hm hm9)
  have HA := Lib.hid hA
  have HMS := Lib.hid hms
  have HI := Lib.hid (itoa_sz (m : Int) (by omega) (by omega))
  have HL := Lib.hid hl
  have HL0 := Lib.hid (show l.length ≤ 1048576 by rw [List.length_append, List.length_append] at hl; omega)
  have HBS := Lib.hid hbs
  have HP0 := Lib.hid (PK.start hD)
  clear hg hn hm hm9 hA hms hl hD hbs
  obtain ⟨W0, hW0⟩ : ∃ W0, W0 = w.alloc (.cells #[.int .u8 2, .string key, .string too, .int .i64 n, .slice A m c] 47) := ⟨_, rfl⟩
  have B0 := Lib.hid (show Below w.heap.size w W0 by rw [hW0]; exact alb w _)
  have Z0 := Lib.hid (show W0.heap[w.heap.size]? = some (.cells #[.int .u8 2, .string key, .string too, .int .i64 n, .slice A m c] 47) by rw [hW0]; exact heap_alloc_new w _)
  obtain ⟨c0, c1, c2, c3, c4⟩ := cells5 Z0.out
  go_enter Tryz.func25, Tryz.ntmps25
  go_upto_region 1 with fail
  rw [← hW0]
  clear hW0
  go_upto_region 14 with (first
    | (go_at_call 49; ((with_reducible refine (itoa_any n (by have := HN.out; omega) (by have := HN.out; omega) _ (HG.out.later B0.out).gw).mono ?_); rintro e w1 ⟨rfl, b1⟩; have B1 := Lib.hid (bel_trans B0.out b1); have Z1 := Lib.hid (keep_bel b1 Z0.out); obtain ⟨c0, c1, c2, c3, c4⟩ := cells5 Z1.out; clear b1))
    | fail)
  go_upto_region 16 with (first
    | (go_at_call 49; ((with_reducible refine (itoa_any (m : Int) (by have := HM.out; omega) (by have := HM.out; omega) _ (HG.out.later B1.out).gw).mono ?_); rintro e w2 ⟨rfl, b1⟩; have B2 := Lib.hid (bel_trans B1.out b1); have Z2 := Lib.hid (keep_bel b1 Z1.out); obtain ⟨c0, c1, c2, c3, c4⟩ := cells5 Z2.out; clear b1))
    | (go_at_call 24; ((refine (line_any B b _ 2 2 [wSend, itoaB m] l _ rfl (by omega) (WB.lit w2 #[.string wSend, .string (itoaB m)] [wSend, itoaB m] rfl) (HP0.out.later (bel_alloc B2.out _) HG.out.le).d (Nat.le_trans HG.out.le (bel_alloc B2.out _).size) HL0.out (by intro x hx; simp only [List.mem_cons, List.not_mem_nil, or_false] at hx; rcases hx with rfl | rfl <;> first | decide | (have := HI.out; omega)) (by have := HBS.out; have := B2.out.size; omega)).mono ?_); rintro e w3 ⟨rfl, p2⟩; have P3 := Lib.hid ((HP0.out.later (bel_alloc B2.out _) HG.out.le).then p2); have Z3 := Lib.hid (ok_keep p2.o (keep_bel (alb w2 (.cells #[.string wSend, .string (itoaB m)] 9)) Z2.out) (by have := HBS.out; omega) (by decide)); obtain ⟨c0, c1, c2, c3, c4⟩ := cells5 Z3.out; clear p2))
    | fail)
  clear c0 c1 c2 c3 c4
  go_loopw [67] (fun iv wr => ∃ k : Nat, k ≤ m ∧ iv = .int .i64 k ∧ PK B b ((l ++ lineL [wSend, itoaB m]) ++ msL (ms.take k)) w wr) (fun iv _ => m - (intOf iv).toNat)
  case atStart => exact ⟨0, by omega, rfl, by show PK B b (_ ++ []) w w3; rw [List.append_nil]; exact P3.out⟩
  case round =>
    obtain ⟨k, hk, rfl, hpk⟩ := hrel
    have HP := Lib.hid hpk
    clear hpk
    have HBW := Lib.hid (show B ≤ wr.heap.size from Nat.le_trans HG.out.le HP.out.bl.size)
    have hNN := HM.out
    by_cases h8 : k < m
    · have hk1 : (k : Int) < (m : Int) := by omega
      have hk0 : (0 : Int) ≤ (k : Int) := by omega
      have WK : IntKind.i64.wrap ((k : Int) + 1) = (k : Int) + 1 := IntWalk.i64_in _ (by omega)
      obtain ⟨x, hx⟩ : ∃ x, ms[k]? = some x := ⟨_, List.getElem?_eq_getElem (by omega)⟩
      obtain ⟨b2, off, rfl, hlt, hc⟩ := (HA.out wr HP.out.bl).get hx
      have HX := Lib.hid (HMS.out x (List.mem_of_getElem? hx))
      have HT := Lib.hid (msL_next hx)
      have HLL := Lib.hid (show ((l ++ lineL [wSend, itoaB m]) ++ msL (ms.take k)).length ≤ 1048576 by have h1 := HL.out; have h2 := msL_take ms k; rw [List.length_append] at h1 ⊢; omega)
      obtain ⟨mk, mq, mkey, mtoo, mval, mdl⟩ := x
      have g0 : wr.cell? ⟨b2, off + k * 6, none⟩ = some (.int .u8 mk) := hc 0 _ rfl
      have g1 : wr.cell? ⟨b2, off + k * 6 + 1, none⟩ = some (.int .i64 mq) := hc 1 _ rfl
      have g2 : wr.cell? ⟨b2, off + k * 6 + 2, none⟩ = some (.string mkey) := hc 2 _ rfl
      have g3 : wr.cell? ⟨b2, off + k * 6 + 3, none⟩ = some (.string mtoo) := hc 3 _ rfl
      have g4 : wr.cell? ⟨b2, off + k * 6 + 4, none⟩ = some (.string mval) := hc 4 _ rfl
      have g5 : wr.cell? ⟨b2, off + k * 6 + 5, none⟩ = some (.int .u64 mdl) := hc 5 _ rfl
      clear hx hNN hc
      go_wp2_with (first
        | (go_at_call 51; ((refine (pmsg_any B b ⟨mk, mq, mkey, mtoo, mval, mdl⟩ ((l ++ lineL [wSend, itoaB m]) ++ msL (ms.take k)) _ ((HG.out.bel HP.out.bl).later (alb wr _)) HX.out (HP.out.later (alb wr _) HBW.out).d (Nat.lt_of_lt_of_le HBS.out (Nat.le_trans (show w.heap.size ≤ wr.heap.size from HP.out.bl.size) (alb wr _).size)) HLL.out).mono ?_); rintro e w9 ⟨rfl, p2⟩; have P9 := Lib.hid ((HP.out.later (alb wr _) HBW.out).then p2); clear p2))
        | fail)
      exact ⟨⟨k + 1, by omega, rfl, by rw [HT.out, ← List.append_assoc]; exact P9.out⟩, by simp [intOf]; omega⟩
    · have hke : k = m := by omega
      subst hke
      have hk1 : ¬ (k : Int) < (k : Int) := by omega
      have HE := Lib.hid (show ms.take k = ms from List.take_of_length_le (by omega))
      go_wp2
      go_end0
      exact ⟨rfl, by have h := HP.out; rw [HE.out] at h; simpa only [List.append_assoc] using h⟩
/-- An operation's lines. -/
def opL (o : OpV) : List UInt8 :=
  if o.k = 1 then lineL [wGet, tokB o.key]
  else if o.k = 3 then lineL [wLook, tokB o.key, tokB o.too, itoaB o.n]
  else if o.k = 4 then lineL [wOpen, tokB o.key, tokB o.too]
  else if o.k = 5 then lineL [wNext, itoaB o.n]
  else if o.k = 6 then lineL [wClose, itoaB o.n]
  else lineL [wSend, itoaB o.ms.length] ++ msL o.ms
/-- An operation that may be printed. -/
structure OOk (o : OpV) : Prop where
  k : o.k = 1 ∨ o.k = 2 ∨ o.k = 3 ∨ o.k = 4 ∨ o.k = 5 ∨ o.k = 6
  key : o.key.size ≤ 900000
  too : o.too.size ≤ 900000
  n : -2147483647 ≤ o.n ∧ o.n ≤ 2147483647
  m : o.ms.length ≤ 900000
  ms : ∀ x ∈ o.ms, MOk x
theorem pop_any (B b : Nat) (o : OpV) (A : Option Addr) (c : Nat) (l : List UInt8) (w : World) (hg : GB B w) (ho : OOk o) (hA : ∀ V, Below B w V → EM.Rd V A o.ms) (hD : Bd 59 B b l w) (hbs : b < w.heap.size) (hl : (l ++ opL o).length ≤ 1048576) :
    Calls Tryz.prog 25 #[.pointer (some ⟨b, 0, none⟩), o.v A c] w fun e w' => e = .returned (.tuple #[]) ∧ PK B b (l ++ opL o) w w' := by
  obtain ⟨hk, h1, h2, h3, h4, h5⟩ := ho
  have hl0 : l.length ≤ 1048576 := by rw [List.length_append] at hl; omega
  obtain ⟨k, key, too, n, ms⟩ := o
  simp only at hk h1 h2 h3 h4 h5 hA
  rcases hk with rfl | rfl | rfl | rfl | rfl | rfl
  · exact pop_1 B b n key too A _ c l w hg h1 h2 h3 hD hbs hl0
  · have e : l ++ opL ⟨2, key, too, n, ms⟩ = (l ++ lineL [wSend, itoaB ms.length]) ++ msL ms := by rw [List.append_assoc]; rfl
    rw [e] at hl ⊢
    exact pop_2 B b n key too A _ c ms l w hg h3 rfl h4 hA h5 hD hbs hl
  · exact pop_3 B b n key too A _ c l w hg h1 h2 h3 hD hbs hl0
  · exact pop_4 B b n key too A _ c l w hg h1 h2 h3 hD hbs hl0
  · exact pop_5 B b n key too A _ c l w hg h1 h2 h3 hD hbs hl0
  · exact pop_6 B b n key too A _ c l w hg h1 h2 h3 hD hbs hl0
end Go.Proofs.YtelpkajlejbbgaaGreatDoor
