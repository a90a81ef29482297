/- Words for a line; a message printed. -/
import Derived.Test.YtdebedeebmmleaaGreatDoorTc01
import Derived.Test.YtdebedeebmmleaaGreatDoorTc21
import Derived.Test.YtdebedeebmmleaaGreatDoorTc03
import Derived.Test.YtdebedeebmmleaaGreatDoorTc04
import Derived.Test.YtdebedeebmmleaaGreatDoorTc05
import Derived.Lib.ItoaLen
set_option linter.unusedVariables false
set_option linter.unusedSimpArgs false
namespace Go.Proofs.YtdebedeebmmleaaGreatDoor
open Go.RowKit Go.Maps
theorem wb_of {w : World} {b : Nat} {cs : Array Value} {ws : List ByteArray} (h : w.heap[b]? = some (.cells cs 9 (0, 0))) (hp : cs.toList.take ws.length = ws.map Value.string) : WB w b ws := by
  refine ⟨cs, h, fun i x hx => ?_⟩
  have hlt := (List.getElem?_eq_some_iff.1 hx).1
  have e : (cs.toList.take ws.length)[i]? = some (.string x) := by rw [hp, List.getElem?_map, hx]; rfl
  rw [List.getElem?_take, if_pos hlt] at e
  simpa using e
theorem WB.lit (w : World) (cs : Array Value) (ws : List ByteArray) (h : cs.toList = ws.map Value.string) : WB (w.alloc (.cells cs 9)) w.heap.size ws := by
  refine wb_of (heap_alloc_new w _) ?_
  rw [h, List.take_of_length_le (by simp)]
theorem RE.Row.blk {α : Type} {E : RE α} {w : World} {base : Nat} {A : Option Addr} {l : List α} {c : Nat} (h : E.Row w base A l c) (hl : 0 < l.length) : ∃ b, A = some ⟨b, 0, none⟩ ∧ base ≤ b ∧ b < w.heap.size ∧ RE.fp A c = some b := by
  rcases h with ⟨h, _⟩ | ⟨h0, h⟩
  · rw [h] at hl; cases hl
  · obtain ⟨g, cap, hv, _, hlt⟩ := h.form hl
    obtain rfl : A = some ⟨g, 0, none⟩ := by injection hv
    have hc0 : ¬ c = 0 := by omega
    exact ⟨g, rfl, (h.lt g rfl).1, hlt, by simp [RE.fp, hc0]⟩
theorem WB.row {w : World} {base : Nat} {A : Option Addr} {l : List ByteArray} {c : Nat} (h : ES.Row w base A l c) (hl : 0 < l.length) : ∃ b, A = some ⟨b, 0, none⟩ ∧ base ≤ b ∧ b < w.heap.size ∧ l.length ≤ c ∧ WB w b l := by
  obtain ⟨b, e, h1, h2, h3⟩ := h.blk hl
  refine ⟨b, e, h1, h2, h.cap.1, ?_⟩
  rcases h with ⟨h, _⟩ | ⟨h0, h⟩
  · rw [h] at hl; cases hl
  · rcases h.2 with ⟨hv, hn⟩ | ⟨g, cap, cur, hv, hb, hg, q1, q2, q3, q4⟩
    · omega
    · rw [e] at hv
      injection hv with e1 e2 e3
      injection e1 with e1
      injection e1 with e1 e4 e5
      subst e1
      refine wb_of hg ?_
      rw [← es_all]
      have q : l.length * ES.k = l.length := Nat.mul_one _
      rw [q] at q4
      exact q4
theorem row_lit (w : World) (x : ByteArray) : ES.Row (w.alloc (.cells #[.string x] 9)) w.heap.size (some ⟨w.heap.size, 0, none⟩) [x] 1 :=
  .inr ⟨by omega, rfl, .inr ⟨w.heap.size, 1, #[.string x], rfl, Nat.le_refl _, heap_alloc_new w _, Nat.le_refl _, by unfold maxLen; omega, rfl, rfl⟩⟩
theorem row_lit2 {base : Nat} (w : World) (x y : ByteArray) (hb : base ≤ w.heap.size) : ES.Row (w.alloc (.cells #[.string x, .string y] 9)) base (some ⟨w.heap.size, 0, none⟩) [x, y] 2 :=
  .inr ⟨by omega, rfl, .inr ⟨w.heap.size, 2, #[.string x, .string y], rfl, hb, heap_alloc_new w _, Nat.le_refl _, by unfold maxLen; omega, rfl, rfl⟩⟩
theorem itoa_sz (v : Int) (h0 : -9223372036854775808 ≤ v) (h1 : v ≤ 9223372036854775807) : (itoaB v).size ≤ 21 := by
  unfold itoaB
  rw [ba_size]
  exact Lib.itoa_length_le v h0 h1
theorem tok_sz {t : ByteArray} (h : t.size ≤ 900000) : (tokB t).size ≤ 2000000 := by have := tok_size t; omega
theorem utoa_sz (u : Nat) (h : u ≤ 18446744073709551615) : (utoaB u).size ≤ 2000000 := by
  unfold utoaB
  rw [ba_size, Lib.decDigits_length]
  have := Lib.nDigits_le20 u (by omega)
  omega
theorem q_sz {q : Int} (h : -1099511627776 ≤ q ∧ q ≤ 1099511627776) : (itoaB q).size ≤ 2000000 := by have := itoa_sz q (by omega) (by omega); omega
set_option maxHeartbeats 2000000 in
set_option maxRecDepth 100000 in
theorem pmsg_1 (B b : Nat) (q : Int) (dl : Int) (key too val : ByteArray) (l : List UInt8) (w : World) (hg : GB B w) (hq : -1099511627776 ≤ q ∧ q ≤ 1099511627776) (hkey : key.size ≤ 900000) (htoo : too.size ≤ 900000) (hval : val.size ≤ 900000) (hD : Bd 51 B b l w) (hbs : b < w.heap.size) (hl : l.length ≤ 4194304) :
    Calls Tryz.prog 40 #[.pointer (some ⟨b, 0, none⟩), .agg #[.int .u8 1, .int .i64 q, .string key, .string too, .string val, .int .u64 dl]] w fun e w' => e = .returned (.tuple #[]) ∧ PK B b (l ++ lineL [wPut, itoaB q, tokB key, tokB val]) w w' := by
  have HG := Lib.hid hg
  have HQ := Lib.hid hq
  have HS := Lib.hid (And.intro hkey (And.intro htoo hval))
  have HL := Lib.hid hl
  have HBS := Lib.hid hbs
  have HP0 := Lib.hid (PK.start hD)
  clear hg hkey htoo hval hD hbs hl hq
  obtain ⟨W0, hW0⟩ : ∃ W0, W0 = w.alloc (.cells #[.int .u8 1, .int .i64 q, .string key, .string too, .string val, .int .u64 dl] 73) := ⟨_, rfl⟩
  have B0 := Lib.hid (show Below w.heap.size w W0 by rw [hW0]; exact alb w _)
  have Z0 := Lib.hid (show W0.heap[w.heap.size]? = some (.cells #[.int .u8 1, .int .i64 q, .string key, .string too, .string val, .int .u64 dl] 73) by rw [hW0]; exact heap_alloc_new w _)
  go_enter Tryz.func40, Tryz.ntmps40
  go_upto_region 1 with fail
  rw [← hW0]
  clear hW0
  refine wp_region_held_drew (S := (fun V : World => Below W0.heap.size W0 V)) (by kernel_rfl) ?_ (fun hHeld => ?_)
  · exact (Below.refl _ _).drew
  have HHeld := Lib.hid hHeld; clear hHeld
  refine wT (i := 0) (oi := { dst := some 6, op := Op.fieldAddr 73 (Operand.tmp 3) 1, type := 0, pos := "dump.go:112", after := #[], guard := none }) (v := ?_) rfl (Or.inl ⟨by rfl, ?_⟩) HHeld.out ?_
  rotate_left
  · intro w hSw; clear hSw; go_simp; try with_reducible rfl
  try simp only [pu, pn, s1, s2, s3]
  refine wT (i := 1) (oi := { dst := some 7, op := Op.load 3 (Operand.tmp 6), type := 3, pos := "dump.go:112", after := #[{ on := 0, ground := Ground.data }], guard := none }) (v := (.int .i64 q : Value)) rfl (Or.inl ⟨by rfl, ?_⟩) HHeld.out ?_
  · intro V hV; have hc0 := (cells6 (keep_bel hV Z0.out)).2.1; clear hV; go_simp
  try simp only [pu, pn, s1, s2, s3]
  refine wT (i := 3) (oi := { dst := some 9, op := Op.fieldAddr 73 (Operand.tmp 3) 2, type := 0, pos := "dump.go:112", after := #[], guard := none }) (v := ?_) rfl (Or.inl ⟨by rfl, ?_⟩) HHeld.out ?_
  rotate_left
  · intro w hSw; clear hSw; go_simp; try with_reducible rfl
  try simp only [pu, pn, s1, s2, s3]
  refine wT (i := 4) (oi := { dst := some 10, op := Op.load 9 (Operand.tmp 9), type := 9, pos := "dump.go:112", after := #[{ on := 3, ground := Ground.data }], guard := none }) (v := (.string key : Value)) rfl (Or.inl ⟨by rfl, ?_⟩) HHeld.out ?_
  · intro V hV; have hc0 := (cells6 (keep_bel hV Z0.out)).2.2.1; clear hV; go_simp
  try simp only [pu, pn, s1, s2, s3]
  refine wpAnyH_ready (rs := [2]) (by kernel_rfl) (by simp) ?_
  refine AllReadyH.cons (o := { dst := some 8, op := Op.call { callee := Callee.value (Operand.func 20), args := #[Operand.tmp 7], argTypes := #[3] }, type := 9, pos := "dump.go:112", after := #[{ on := 1, ground := Ground.data }], guard := none }) rfl (fun K hK => ?_) AllReadyH.nil
  go_simp
  (go_at_call 20; ((with_reducible refine (itoa_any q (by have := HQ.out; omega) (by have := HQ.out; omega) _ (HG.out.later (B0.out.trans (HHeld.out.mono B0.out.size))).gw).mono ?_); rintro e v2 ⟨rfl, bb⟩; have K2 := Lib.hid (HHeld.out.trans (bb.mono HHeld.out.size)); clear bb))
  refine hK.out _ _ ?_ (fun hHeld => ?_)
  · exact K2.out
  clear HHeld; have HHeld := Lib.hid hHeld; clear hHeld
  clear hK K
  try simp only [pu, pn, s1, s2, s3]
  refine wpAnyH_ready (rs := [5]) (by kernel_rfl) (by simp) ?_
  refine AllReadyH.cons (o := { dst := some 11, op := Op.call { callee := Callee.value (Operand.func 39), args := #[Operand.tmp 10], argTypes := #[9] }, type := 9, pos := "dump.go:112", after := #[{ on := 4, ground := Ground.data }, { on := 2, ground := Ground.chain }], guard := none }) rfl (fun K hK => ?_) AllReadyH.nil
  go_simp
  (go_at_call 39; ((with_reducible refine (token_any key (by have := HS.out.1; omega) _).mono ?_); rintro e v5 ⟨rfl, bb⟩; have K5 := Lib.hid (HHeld.out.trans (bb.mono HHeld.out.size)); clear bb))
  refine hK.out _ _ ?_ (fun hHeld => ?_)
  · exact K5.out
  clear HHeld; have HHeld := Lib.hid hHeld; clear hHeld
  clear hK K
  try simp only [pu, pn, s1, s2, s3]
  refine wT (i := 6) (oi := { dst := some 4, op := Op.assign (Operand.tmp 8), type := 9, pos := "dump.go:112", after := #[{ on := 2, ground := Ground.data }, { on := 5, ground := Ground.chain }, { on := 0, ground := Ground.phase }, { on := 1, ground := Ground.phase }, { on := 2, ground := Ground.phase }, { on := 3, ground := Ground.textOnly Departure.lateStores }, { on := 4, ground := Ground.textOnly Departure.lateStores }, { on := 5, ground := Ground.textOnly Departure.lateStoresUnsure }], guard := none }) (v := ?_) rfl (Or.inl ⟨by rfl, ?_⟩) HHeld.out ?_
  rotate_left
  · intro w hSw; clear hSw; go_simp; try with_reducible rfl
  try simp only [pu, pn, s1, s2, s3]
  refine wT (i := 7) (oi := { dst := some 5, op := Op.assign (Operand.tmp 11), type := 9, pos := "dump.go:112", after := #[{ on := 5, ground := Ground.data }, { on := 6, ground := Ground.chain }, { on := 0, ground := Ground.phase }, { on := 1, ground := Ground.phase }, { on := 2, ground := Ground.phase }, { on := 3, ground := Ground.phase }, { on := 4, ground := Ground.phase }, { on := 5, ground := Ground.phase }, { on := 6, ground := Ground.phase }], guard := none }) (v := ?_) rfl (Or.inl ⟨by rfl, ?_⟩) HHeld.out ?_
  rotate_left
  · intro w hSw; clear hSw; go_simp; try with_reducible rfl
  try simp only [pu, pn, s1, s2, s3]
  refine wpAnyH_done (by kernel_rfl) ?_ _
  have BL5 := Lib.hid (B0.out.trans (K5.out.mono B0.out.size))
  have Z5 := Lib.hid (keep_bel K5.out Z0.out)
  obtain ⟨c0, c1, c2, c3, c4, c5⟩ := cells6 Z5.out
  go_wp2_with (first
    | (go_at_call 39; ((with_reducible refine (token_any val (by have := HS.out.2.2; omega) _).mono ?_); rintro e w6 ⟨rfl, b1⟩; have BL6 := Lib.hid (BL5.out.trans (b1.mono BL5.out.size)); clear b1))
    | (go_at_call 19; ((refine (line_any B b _ 4 4 [wPut, itoaB q, tokB key, tokB val] l _ rfl (by omega) (by omega) (WB.lit w6 #[.string wPut, .string (itoaB q), .string (tokB key), .string (tokB val)] [wPut, itoaB q, tokB key, tokB val] rfl) (HP0.out.later (bel_alloc BL6.out _) HG.out.le).d (Nat.le_trans HG.out.le (bel_alloc BL6.out _).size) HL.out (by intro x hx; simp only [List.mem_cons, List.not_mem_nil, or_false] at hx; rcases hx with rfl | rfl | rfl | rfl <;> first | decide | exact q_sz HQ.out | exact tok_sz HS.out.1 | exact tok_sz HS.out.2.2) (by have := HBS.out; have := BL6.out.size; omega)).mono ?_); rintro e w9 ⟨rfl, p2⟩; have P2 := Lib.hid ((HP0.out.later (bel_alloc BL6.out _) HG.out.le).then p2); clear p2))
    | fail)
  go_end0
  exact ⟨rfl, P2.out⟩
set_option maxHeartbeats 2000000 in
set_option maxRecDepth 100000 in
theorem pmsg_2 (B b : Nat) (q : Int) (dl : Int) (key too val : ByteArray) (l : List UInt8) (w : World) (hg : GB B w) (hq : -1099511627776 ≤ q ∧ q ≤ 1099511627776) (hkey : key.size ≤ 900000) (htoo : too.size ≤ 900000) (hval : val.size ≤ 900000) (hD : Bd 51 B b l w) (hbs : b < w.heap.size) (hl : l.length ≤ 4194304) :
    Calls Tryz.prog 40 #[.pointer (some ⟨b, 0, none⟩), .agg #[.int .u8 2, .int .i64 q, .string key, .string too, .string val, .int .u64 dl]] w fun e w' => e = .returned (.tuple #[]) ∧ PK B b (l ++ lineL [wDel, itoaB q, tokB key]) w w' := by
  have HG := Lib.hid hg
  have HQ := Lib.hid hq
  have HS := Lib.hid (And.intro hkey (And.intro htoo hval))
  have HL := Lib.hid hl
  have HBS := Lib.hid hbs
  have HP0 := Lib.hid (PK.start hD)
  clear hg hkey htoo hval hD hbs hl hq
  obtain ⟨W0, hW0⟩ : ∃ W0, W0 = w.alloc (.cells #[.int .u8 2, .int .i64 q, .string key, .string too, .string val, .int .u64 dl] 73) := ⟨_, rfl⟩
  have B0 := Lib.hid (show Below w.heap.size w W0 by rw [hW0]; exact alb w _)
  have Z0 := Lib.hid (show W0.heap[w.heap.size]? = some (.cells #[.int .u8 2, .int .i64 q, .string key, .string too, .string val, .int .u64 dl] 73) by rw [hW0]; exact heap_alloc_new w _)
  go_enter Tryz.func40, Tryz.ntmps40
  go_upto_region 1 with fail
  rw [← hW0]
  clear hW0
  refine wp_region_held_drew (S := (fun V : World => Below W0.heap.size W0 V)) (by kernel_rfl) ?_ (fun hHeld => ?_)
  · exact (Below.refl _ _).drew
  have HHeld := Lib.hid hHeld; clear hHeld
  refine wT (i := 0) (oi := { dst := some 6, op := Op.fieldAddr 73 (Operand.tmp 3) 1, type := 0, pos := "dump.go:112", after := #[], guard := none }) (v := ?_) rfl (Or.inl ⟨by rfl, ?_⟩) HHeld.out ?_
  rotate_left
  · intro w hSw; clear hSw; go_simp; try with_reducible rfl
  try simp only [pu, pn, s1, s2, s3]
  refine wT (i := 1) (oi := { dst := some 7, op := Op.load 3 (Operand.tmp 6), type := 3, pos := "dump.go:112", after := #[{ on := 0, ground := Ground.data }], guard := none }) (v := (.int .i64 q : Value)) rfl (Or.inl ⟨by rfl, ?_⟩) HHeld.out ?_
  · intro V hV; have hc0 := (cells6 (keep_bel hV Z0.out)).2.1; clear hV; go_simp
  try simp only [pu, pn, s1, s2, s3]
  refine wT (i := 3) (oi := { dst := some 9, op := Op.fieldAddr 73 (Operand.tmp 3) 2, type := 0, pos := "dump.go:112", after := #[], guard := none }) (v := ?_) rfl (Or.inl ⟨by rfl, ?_⟩) HHeld.out ?_
  rotate_left
  · intro w hSw; clear hSw; go_simp; try with_reducible rfl
  try simp only [pu, pn, s1, s2, s3]
  refine wT (i := 4) (oi := { dst := some 10, op := Op.load 9 (Operand.tmp 9), type := 9, pos := "dump.go:112", after := #[{ on := 3, ground := Ground.data }], guard := none }) (v := (.string key : Value)) rfl (Or.inl ⟨by rfl, ?_⟩) HHeld.out ?_
  · intro V hV; have hc0 := (cells6 (keep_bel hV Z0.out)).2.2.1; clear hV; go_simp
  try simp only [pu, pn, s1, s2, s3]
  refine wpAnyH_ready (rs := [2]) (by kernel_rfl) (by simp) ?_
  refine AllReadyH.cons (o := { dst := some 8, op := Op.call { callee := Callee.value (Operand.func 20), args := #[Operand.tmp 7], argTypes := #[3] }, type := 9, pos := "dump.go:112", after := #[{ on := 1, ground := Ground.data }], guard := none }) rfl (fun K hK => ?_) AllReadyH.nil
  go_simp
  (go_at_call 20; ((with_reducible refine (itoa_any q (by have := HQ.out; omega) (by have := HQ.out; omega) _ (HG.out.later (B0.out.trans (HHeld.out.mono B0.out.size))).gw).mono ?_); rintro e v2 ⟨rfl, bb⟩; have K2 := Lib.hid (HHeld.out.trans (bb.mono HHeld.out.size)); clear bb))
  refine hK.out _ _ ?_ (fun hHeld => ?_)
  · exact K2.out
  clear HHeld; have HHeld := Lib.hid hHeld; clear hHeld
  clear hK K
  try simp only [pu, pn, s1, s2, s3]
  refine wpAnyH_ready (rs := [5]) (by kernel_rfl) (by simp) ?_
  refine AllReadyH.cons (o := { dst := some 11, op := Op.call { callee := Callee.value (Operand.func 39), args := #[Operand.tmp 10], argTypes := #[9] }, type := 9, pos := "dump.go:112", after := #[{ on := 4, ground := Ground.data }, { on := 2, ground := Ground.chain }], guard := none }) rfl (fun K hK => ?_) AllReadyH.nil
  go_simp
  (go_at_call 39; ((with_reducible refine (token_any key (by have := HS.out.1; omega) _).mono ?_); rintro e v5 ⟨rfl, bb⟩; have K5 := Lib.hid (HHeld.out.trans (bb.mono HHeld.out.size)); clear bb))
  refine hK.out _ _ ?_ (fun hHeld => ?_)
  · exact K5.out
  clear HHeld; have HHeld := Lib.hid hHeld; clear hHeld
  clear hK K
  try simp only [pu, pn, s1, s2, s3]
  refine wT (i := 6) (oi := { dst := some 4, op := Op.assign (Operand.tmp 8), type := 9, pos := "dump.go:112", after := #[{ on := 2, ground := Ground.data }, { on := 5, ground := Ground.chain }, { on := 0, ground := Ground.phase }, { on := 1, ground := Ground.phase }, { on := 2, ground := Ground.phase }, { on := 3, ground := Ground.textOnly Departure.lateStores }, { on := 4, ground := Ground.textOnly Departure.lateStores }, { on := 5, ground := Ground.textOnly Departure.lateStoresUnsure }], guard := none }) (v := ?_) rfl (Or.inl ⟨by rfl, ?_⟩) HHeld.out ?_
  rotate_left
  · intro w hSw; clear hSw; go_simp; try with_reducible rfl
  try simp only [pu, pn, s1, s2, s3]
  refine wT (i := 7) (oi := { dst := some 5, op := Op.assign (Operand.tmp 11), type := 9, pos := "dump.go:112", after := #[{ on := 5, ground := Ground.data }, { on := 6, ground := Ground.chain }, { on := 0, ground := Ground.phase }, { on := 1, ground := Ground.phase }, { on := 2, ground := Ground.phase }, { on := 3, ground := Ground.phase }, { on := 4, ground := Ground.phase }, { on := 5, ground := Ground.phase }, { on := 6, ground := Ground.phase }], guard := none }) (v := ?_) rfl (Or.inl ⟨by rfl, ?_⟩) HHeld.out ?_
  rotate_left
  · intro w hSw; clear hSw; go_simp; try with_reducible rfl
  try simp only [pu, pn, s1, s2, s3]
  refine wpAnyH_done (by kernel_rfl) ?_ _
  have BL5 := Lib.hid (B0.out.trans (K5.out.mono B0.out.size))
  have Z5 := Lib.hid (keep_bel K5.out Z0.out)
  obtain ⟨c0, c1, c2, c3, c4, c5⟩ := cells6 Z5.out
  go_wp2_with (first
    | (go_at_call 19; ((refine (line_any B b _ 3 3 [wDel, itoaB q, tokB key] l _ rfl (by omega) (by omega) (WB.lit v5 #[.string wDel, .string (itoaB q), .string (tokB key)] [wDel, itoaB q, tokB key] rfl) (HP0.out.later (bel_alloc BL5.out _) HG.out.le).d (Nat.le_trans HG.out.le (bel_alloc BL5.out _).size) HL.out (by intro x hx; simp only [List.mem_cons, List.not_mem_nil, or_false] at hx; rcases hx with rfl | rfl | rfl <;> first | decide | exact q_sz HQ.out | exact tok_sz HS.out.1) (by have := HBS.out; have := BL5.out.size; omega)).mono ?_); rintro e w9 ⟨rfl, p2⟩; have P2 := Lib.hid ((HP0.out.later (bel_alloc BL5.out _) HG.out.le).then p2); clear p2))
    | fail)
  go_end0
  exact ⟨rfl, P2.out⟩
set_option maxHeartbeats 2000000 in
set_option maxRecDepth 100000 in
theorem pmsg_3 (B b : Nat) (q : Int) (d : Nat) (key too val : ByteArray) (l : List UInt8) (w : World) (hg : GB B w) (hq : -1099511627776 ≤ q ∧ q ≤ 1099511627776) (hkey : key.size ≤ 900000) (htoo : too.size ≤ 900000) (hval : val.size ≤ 900000) (hd : d ≤ 18446744073709551615) (hD : Bd 51 B b l w) (hbs : b < w.heap.size) (hl : l.length ≤ 4194304) :
    Calls Tryz.prog 40 #[.pointer (some ⟨b, 0, none⟩), .agg #[.int .u8 3, .int .i64 q, .string key, .string too, .string val, .int .u64 (d : Int)]] w fun e w' => e = .returned (.tuple #[]) ∧ PK B b (l ++ lineL [wAdd, itoaB q, tokB key, utoaB d]) w w' := by
  have HG := Lib.hid hg
  have HQ := Lib.hid hq
  have HS := Lib.hid (And.intro hkey (And.intro htoo hval))
  have HL := Lib.hid hl
  have HBS := Lib.hid hbs
  have HP0 := Lib.hid (PK.start hD)
  have HD := Lib.hid hd
  clear hd
  clear hg hkey htoo hval hD hbs hl hq
  obtain ⟨W0, hW0⟩ : ∃ W0, W0 = w.alloc (.cells #[.int .u8 3, .int .i64 q, .string key, .string too, .string val, .int .u64 (d : Int)] 73) := ⟨_, rfl⟩
  have B0 := Lib.hid (show Below w.heap.size w W0 by rw [hW0]; exact alb w _)
  have Z0 := Lib.hid (show W0.heap[w.heap.size]? = some (.cells #[.int .u8 3, .int .i64 q, .string key, .string too, .string val, .int .u64 (d : Int)] 73) by rw [hW0]; exact heap_alloc_new w _)
  go_enter Tryz.func40, Tryz.ntmps40
  go_upto_region 1 with fail
  rw [← hW0]
  clear hW0
  refine wp_region_held_drew (S := (fun V : World => Below W0.heap.size W0 V)) (by kernel_rfl) ?_ (fun hHeld => ?_)
  · exact (Below.refl _ _).drew
  have HHeld := Lib.hid hHeld; clear hHeld
  refine wT (i := 0) (oi := { dst := some 6, op := Op.fieldAddr 73 (Operand.tmp 3) 1, type := 0, pos := "dump.go:112", after := #[], guard := none }) (v := ?_) rfl (Or.inl ⟨by rfl, ?_⟩) HHeld.out ?_
  rotate_left
  · intro w hSw; clear hSw; go_simp; try with_reducible rfl
  try simp only [pu, pn, s1, s2, s3]
  refine wT (i := 1) (oi := { dst := some 7, op := Op.load 3 (Operand.tmp 6), type := 3, pos := "dump.go:112", after := #[{ on := 0, ground := Ground.data }], guard := none }) (v := (.int .i64 q : Value)) rfl (Or.inl ⟨by rfl, ?_⟩) HHeld.out ?_
  · intro V hV; have hc0 := (cells6 (keep_bel hV Z0.out)).2.1; clear hV; go_simp
  try simp only [pu, pn, s1, s2, s3]
  refine wT (i := 3) (oi := { dst := some 9, op := Op.fieldAddr 73 (Operand.tmp 3) 2, type := 0, pos := "dump.go:112", after := #[], guard := none }) (v := ?_) rfl (Or.inl ⟨by rfl, ?_⟩) HHeld.out ?_
  rotate_left
  · intro w hSw; clear hSw; go_simp; try with_reducible rfl
  try simp only [pu, pn, s1, s2, s3]
  refine wT (i := 4) (oi := { dst := some 10, op := Op.load 9 (Operand.tmp 9), type := 9, pos := "dump.go:112", after := #[{ on := 3, ground := Ground.data }], guard := none }) (v := (.string key : Value)) rfl (Or.inl ⟨by rfl, ?_⟩) HHeld.out ?_
  · intro V hV; have hc0 := (cells6 (keep_bel hV Z0.out)).2.2.1; clear hV; go_simp
  try simp only [pu, pn, s1, s2, s3]
  refine wpAnyH_ready (rs := [2]) (by kernel_rfl) (by simp) ?_
  refine AllReadyH.cons (o := { dst := some 8, op := Op.call { callee := Callee.value (Operand.func 20), args := #[Operand.tmp 7], argTypes := #[3] }, type := 9, pos := "dump.go:112", after := #[{ on := 1, ground := Ground.data }], guard := none }) rfl (fun K hK => ?_) AllReadyH.nil
  go_simp
  (go_at_call 20; ((with_reducible refine (itoa_any q (by have := HQ.out; omega) (by have := HQ.out; omega) _ (HG.out.later (B0.out.trans (HHeld.out.mono B0.out.size))).gw).mono ?_); rintro e v2 ⟨rfl, bb⟩; have K2 := Lib.hid (HHeld.out.trans (bb.mono HHeld.out.size)); clear bb))
  refine hK.out _ _ ?_ (fun hHeld => ?_)
  · exact K2.out
  clear HHeld; have HHeld := Lib.hid hHeld; clear hHeld
  clear hK K
  try simp only [pu, pn, s1, s2, s3]
  refine wpAnyH_ready (rs := [5]) (by kernel_rfl) (by simp) ?_
  refine AllReadyH.cons (o := { dst := some 11, op := Op.call { callee := Callee.value (Operand.func 39), args := #[Operand.tmp 10], argTypes := #[9] }, type := 9, pos := "dump.go:112", after := #[{ on := 4, ground := Ground.data }, { on := 2, ground := Ground.chain }], guard := none }) rfl (fun K hK => ?_) AllReadyH.nil
  go_simp
  (go_at_call 39; ((with_reducible refine (token_any key (by have := HS.out.1; omega) _).mono ?_); rintro e v5 ⟨rfl, bb⟩; have K5 := Lib.hid (HHeld.out.trans (bb.mono HHeld.out.size)); clear bb))
  refine hK.out _ _ ?_ (fun hHeld => ?_)
  · exact K5.out
  clear HHeld; have HHeld := Lib.hid hHeld; clear hHeld
  clear hK K
  try simp only [pu, pn, s1, s2, s3]
  refine wT (i := 6) (oi := { dst := some 4, op := Op.assign (Operand.tmp 8), type := 9, pos := "dump.go:112", after := #[{ on := 2, ground := Ground.data }, { on := 5, ground := Ground.chain }, { on := 0, ground := Ground.phase }, { on := 1, ground := Ground.phase }, { on := 2, ground := Ground.phase }, { on := 3, ground := Ground.textOnly Departure.lateStores }, { on := 4, ground := Ground.textOnly Departure.lateStores }, { on := 5, ground := Ground.textOnly Departure.lateStoresUnsure }], guard := none }) (v := ?_) rfl (Or.inl ⟨by rfl, ?_⟩) HHeld.out ?_
  rotate_left
  · intro w hSw; clear hSw; go_simp; try with_reducible rfl
  try simp only [pu, pn, s1, s2, s3]
  refine wT (i := 7) (oi := { dst := some 5, op := Op.assign (Operand.tmp 11), type := 9, pos := "dump.go:112", after := #[{ on := 5, ground := Ground.data }, { on := 6, ground := Ground.chain }, { on := 0, ground := Ground.phase }, { on := 1, ground := Ground.phase }, { on := 2, ground := Ground.phase }, { on := 3, ground := Ground.phase }, { on := 4, ground := Ground.phase }, { on := 5, ground := Ground.phase }, { on := 6, ground := Ground.phase }], guard := none }) (v := ?_) rfl (Or.inl ⟨by rfl, ?_⟩) HHeld.out ?_
  rotate_left
  · intro w hSw; clear hSw; go_simp; try with_reducible rfl
  try simp only [pu, pn, s1, s2, s3]
  refine wpAnyH_done (by kernel_rfl) ?_ _
  have BL5 := Lib.hid (B0.out.trans (K5.out.mono B0.out.size))
  have Z5 := Lib.hid (keep_bel K5.out Z0.out)
  obtain ⟨c0, c1, c2, c3, c4, c5⟩ := cells6 Z5.out
  go_wp2_with (first
    | (go_at_call 68; ((with_reducible refine (futoa_any d HD.out _ (HG.out.later BL5.out).gw).mono ?_); rintro e w6 ⟨rfl, b1⟩; have BL6 := Lib.hid (BL5.out.trans (b1.mono BL5.out.size)); clear b1))
    | (go_at_call 19; ((refine (line_any B b _ 4 4 [wAdd, itoaB q, tokB key, utoaB d] l _ rfl (by omega) (by omega) (WB.lit w6 #[.string wAdd, .string (itoaB q), .string (tokB key), .string (utoaB d)] [wAdd, itoaB q, tokB key, utoaB d] rfl) (HP0.out.later (bel_alloc BL6.out _) HG.out.le).d (Nat.le_trans HG.out.le (bel_alloc BL6.out _).size) HL.out (by intro x hx; simp only [List.mem_cons, List.not_mem_nil, or_false] at hx; rcases hx with rfl | rfl | rfl | rfl <;> first | decide | exact q_sz HQ.out | exact tok_sz HS.out.1 | exact utoa_sz d HD.out) (by have := HBS.out; have := BL6.out.size; omega)).mono ?_); rintro e w9 ⟨rfl, p2⟩; have P2 := Lib.hid ((HP0.out.later (bel_alloc BL6.out _) HG.out.le).then p2); clear p2))
    | fail)
  go_end0
  exact ⟨rfl, P2.out⟩
set_option maxHeartbeats 2000000 in
set_option maxRecDepth 100000 in
theorem pmsg_4 (B b : Nat) (q : Int) (dl : Int) (key too val : ByteArray) (l : List UInt8) (w : World) (hg : GB B w) (hq : -1099511627776 ≤ q ∧ q ≤ 1099511627776) (hkey : key.size ≤ 900000) (htoo : too.size ≤ 900000) (hval : val.size ≤ 900000) (hD : Bd 51 B b l w) (hbs : b < w.heap.size) (hl : l.length ≤ 4194304) :
    Calls Tryz.prog 40 #[.pointer (some ⟨b, 0, none⟩), .agg #[.int .u8 4, .int .i64 q, .string key, .string too, .string val, .int .u64 dl]] w fun e w' => e = .returned (.tuple #[]) ∧ PK B b (l ++ lineL [wClr, itoaB q, tokB key, tokB too]) w w' := by
  have HG := Lib.hid hg
  have HQ := Lib.hid hq
  have HS := Lib.hid (And.intro hkey (And.intro htoo hval))
  have HL := Lib.hid hl
  have HBS := Lib.hid hbs
  have HP0 := Lib.hid (PK.start hD)
  clear hg hkey htoo hval hD hbs hl hq
  obtain ⟨W0, hW0⟩ : ∃ W0, W0 = w.alloc (.cells #[.int .u8 4, .int .i64 q, .string key, .string too, .string val, .int .u64 dl] 73) := ⟨_, rfl⟩
  have B0 := Lib.hid (show Below w.heap.size w W0 by rw [hW0]; exact alb w _)
  have Z0 := Lib.hid (show W0.heap[w.heap.size]? = some (.cells #[.int .u8 4, .int .i64 q, .string key, .string too, .string val, .int .u64 dl] 73) by rw [hW0]; exact heap_alloc_new w _)
  go_enter Tryz.func40, Tryz.ntmps40
  go_upto_region 1 with fail
  rw [← hW0]
  clear hW0
  refine wp_region_held_drew (S := (fun V : World => Below W0.heap.size W0 V)) (by kernel_rfl) ?_ (fun hHeld => ?_)
  · exact (Below.refl _ _).drew
  have HHeld := Lib.hid hHeld; clear hHeld
  refine wT (i := 0) (oi := { dst := some 6, op := Op.fieldAddr 73 (Operand.tmp 3) 1, type := 0, pos := "dump.go:112", after := #[], guard := none }) (v := ?_) rfl (Or.inl ⟨by rfl, ?_⟩) HHeld.out ?_
  rotate_left
  · intro w hSw; clear hSw; go_simp; try with_reducible rfl
  try simp only [pu, pn, s1, s2, s3]
  refine wT (i := 1) (oi := { dst := some 7, op := Op.load 3 (Operand.tmp 6), type := 3, pos := "dump.go:112", after := #[{ on := 0, ground := Ground.data }], guard := none }) (v := (.int .i64 q : Value)) rfl (Or.inl ⟨by rfl, ?_⟩) HHeld.out ?_
  · intro V hV; have hc0 := (cells6 (keep_bel hV Z0.out)).2.1; clear hV; go_simp
  try simp only [pu, pn, s1, s2, s3]
  refine wT (i := 3) (oi := { dst := some 9, op := Op.fieldAddr 73 (Operand.tmp 3) 2, type := 0, pos := "dump.go:112", after := #[], guard := none }) (v := ?_) rfl (Or.inl ⟨by rfl, ?_⟩) HHeld.out ?_
  rotate_left
  · intro w hSw; clear hSw; go_simp; try with_reducible rfl
  try simp only [pu, pn, s1, s2, s3]
  refine wT (i := 4) (oi := { dst := some 10, op := Op.load 9 (Operand.tmp 9), type := 9, pos := "dump.go:112", after := #[{ on := 3, ground := Ground.data }], guard := none }) (v := (.string key : Value)) rfl (Or.inl ⟨by rfl, ?_⟩) HHeld.out ?_
  · intro V hV; have hc0 := (cells6 (keep_bel hV Z0.out)).2.2.1; clear hV; go_simp
  try simp only [pu, pn, s1, s2, s3]
  refine wpAnyH_ready (rs := [2]) (by kernel_rfl) (by simp) ?_
  refine AllReadyH.cons (o := { dst := some 8, op := Op.call { callee := Callee.value (Operand.func 20), args := #[Operand.tmp 7], argTypes := #[3] }, type := 9, pos := "dump.go:112", after := #[{ on := 1, ground := Ground.data }], guard := none }) rfl (fun K hK => ?_) AllReadyH.nil
  go_simp
  (go_at_call 20; ((with_reducible refine (itoa_any q (by have := HQ.out; omega) (by have := HQ.out; omega) _ (HG.out.later (B0.out.trans (HHeld.out.mono B0.out.size))).gw).mono ?_); rintro e v2 ⟨rfl, bb⟩; have K2 := Lib.hid (HHeld.out.trans (bb.mono HHeld.out.size)); clear bb))
  refine hK.out _ _ ?_ (fun hHeld => ?_)
  · exact K2.out
  clear HHeld; have HHeld := Lib.hid hHeld; clear hHeld
  clear hK K
  try simp only [pu, pn, s1, s2, s3]
  refine wpAnyH_ready (rs := [5]) (by kernel_rfl) (by simp) ?_
  refine AllReadyH.cons (o := { dst := some 11, op := Op.call { callee := Callee.value (Operand.func 39), args := #[Operand.tmp 10], argTypes := #[9] }, type := 9, pos := "dump.go:112", after := #[{ on := 4, ground := Ground.data }, { on := 2, ground := Ground.chain }], guard := none }) rfl (fun K hK => ?_) AllReadyH.nil
  go_simp
  (go_at_call 39; ((with_reducible refine (token_any key (by have := HS.out.1; omega) _).mono ?_); rintro e v5 ⟨rfl, bb⟩; have K5 := Lib.hid (HHeld.out.trans (bb.mono HHeld.out.size)); clear bb))
  refine hK.out _ _ ?_ (fun hHeld => ?_)
  · exact K5.out
  clear HHeld; have HHeld := Lib.hid hHeld; clear hHeld
  clear hK K
  try simp only [pu, pn, s1, s2, s3]
  refine wT (i := 6) (oi := { dst := some 4, op := Op.assign (Operand.tmp 8), type := 9, pos := "dump.go:112", after := #[{ on := 2, ground := Ground.data }, { on := 5, ground := Ground.chain }, { on := 0, ground := Ground.phase }, { on := 1, ground := Ground.phase }, { on := 2, ground := Ground.phase }, { on := 3, ground := Ground.textOnly Departure.lateStores }, { on := 4, ground := Ground.textOnly Departure.lateStores }, { on := 5, ground := Ground.textOnly Departure.lateStoresUnsure }], guard := none }) (v := ?_) rfl (Or.inl ⟨by rfl, ?_⟩) HHeld.out ?_
  rotate_left
  · intro w hSw; clear hSw; go_simp; try with_reducible rfl
  try simp only [pu, pn, s1, s2, s3]
  refine wT (i := 7) (oi := { dst := some 5, op := Op.assign (Operand.tmp 11), type := 9, pos := "dump.go:112", after := #[{ on := 5, ground := Ground.data }, { on := 6, ground := Ground.chain }, { on := 0, ground := Ground.phase }, { on := 1, ground := Ground.phase }, { on := 2, ground := Ground.phase }, { on := 3, ground := Ground.phase }, { on := 4, ground := Ground.phase }, { on := 5, ground := Ground.phase }, { on := 6, ground := Ground.phase }], guard := none }) (v := ?_) rfl (Or.inl ⟨by rfl, ?_⟩) HHeld.out ?_
  rotate_left
  · intro w hSw; clear hSw; go_simp; try with_reducible rfl
  try simp only [pu, pn, s1, s2, s3]
  refine wpAnyH_done (by kernel_rfl) ?_ _
  have BL5 := Lib.hid (B0.out.trans (K5.out.mono B0.out.size))
  have Z5 := Lib.hid (keep_bel K5.out Z0.out)
  obtain ⟨c0, c1, c2, c3, c4, c5⟩ := cells6 Z5.out
  go_wp2_with (first
    | (go_at_call 39; ((with_reducible refine (token_any too (by have := HS.out.2.1; omega) _).mono ?_); rintro e w6 ⟨rfl, b1⟩; have BL6 := Lib.hid (BL5.out.trans (b1.mono BL5.out.size)); clear b1))
    | (go_at_call 19; ((refine (line_any B b _ 4 4 [wClr, itoaB q, tokB key, tokB too] l _ rfl (by omega) (by omega) (WB.lit w6 #[.string wClr, .string (itoaB q), .string (tokB key), .string (tokB too)] [wClr, itoaB q, tokB key, tokB too] rfl) (HP0.out.later (bel_alloc BL6.out _) HG.out.le).d (Nat.le_trans HG.out.le (bel_alloc BL6.out _).size) HL.out (by intro x hx; simp only [List.mem_cons, List.not_mem_nil, or_false] at hx; rcases hx with rfl | rfl | rfl | rfl <;> first | decide | exact q_sz HQ.out | exact tok_sz HS.out.1 | exact tok_sz HS.out.2.1) (by have := HBS.out; have := BL6.out.size; omega)).mono ?_); rintro e w9 ⟨rfl, p2⟩; have P2 := Lib.hid ((HP0.out.later (bel_alloc BL6.out _) HG.out.le).then p2); clear p2))
    | fail)
  go_end0
  exact ⟨rfl, P2.out⟩
/-- A message whose texts are not too long. -/
def MSm (m : M) : Prop := m.key.size ≤ 900000 ∧ m.too.size ≤ 900000 ∧ m.val.size ≤ 900000
theorem pmsg_any (B b : Nat) (m : M) (l : List UInt8) (w : World) (hg : GB B w) (hm : TMs m) (hs : MSm m) (hD : Bd 51 B b l w) (hbs : b < w.heap.size) (hl : l.length ≤ 4194304) :
    Calls Tryz.prog 40 #[.pointer (some ⟨b, 0, none⟩), m.v] w fun e w' => e = .returned (.tuple #[]) ∧ PK B b (l ++ lineL (mWd m)) w w' := by
  obtain ⟨hk, hq, hf, hd⟩ := hm
  obtain ⟨h1, h2, h3⟩ := hs
  obtain ⟨k, q, key, too, val, dl⟩ := m
  simp only at hk hq hd h1 h2 h3
  rcases hk with rfl | rfl | rfl | rfl
  · exact pmsg_1 B b q dl key too val l w hg hq h1 h2 h3 hD hbs hl
  · exact pmsg_2 B b q dl key too val l w hg hq h1 h2 h3 hD hbs hl
  · obtain ⟨d, rfl⟩ : ∃ d : Nat, dl = d := ⟨dl.toNat, by omega⟩
    exact pmsg_3 B b q d key too val l w hg hq h1 h2 h3 (by omega) hD hbs hl
  · exact pmsg_4 B b q dl key too val l w hg hq h1 h2 h3 hD hbs hl
end Go.Proofs.YtdebedeebmmleaaGreatDoor
