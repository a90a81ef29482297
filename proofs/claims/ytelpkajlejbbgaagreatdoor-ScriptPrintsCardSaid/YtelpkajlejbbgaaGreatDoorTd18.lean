/- A message printed. -/
import Derived.Test.YtelpkajlejbbgaaGreatDoorTd17
import Derived.Test.YtelpkajlejbbgaaGreatDoorTd15
set_option linter.unusedVariables false
set_option linter.unusedSimpArgs false
namespace Go.Proofs.YtelpkajlejbbgaaGreatDoor
open Go.RowKit Go.Maps
/-- A message's words. -/
def mWords (m : M) : List ByteArray :=
  if m.k = 1 then [wPut, tokB m.key, tokB m.val]
  else if m.k = 2 then [wDel, tokB m.key]
  else if m.k = 3 then [wAdd, tokB m.key, utoaB m.dl.toNat]
  else [wClr, tokB m.key, tokB m.too]
/-- A message that may be printed. -/
structure MOk (m : M) : Prop where
  k : m.k = 1 ∨ m.k = 2 ∨ m.k = 3 ∨ m.k = 4
  key : m.key.size ≤ 900000
  too : m.too.size ≤ 900000
  val : m.val.size ≤ 900000
  d0 : 0 ≤ m.dl
  d1 : m.dl ≤ 18446744073709551615
theorem tok_sz {t : ByteArray} (h : t.size ≤ 900000) : (tokB t).size ≤ 2000000 := by have := tok_size t; omega
theorem utoa_sz (u : Nat) (h : u ≤ 18446744073709551615) : (utoaB u).size ≤ 2000000 := by
  unfold utoaB
  rw [ba_size, Lib.decDigits_length]
  have := Lib.nDigits_le20 u (by omega)
  omega
set_option maxHeartbeats 2000000 in
set_option maxRecDepth 100000 in
theorem pmsg_1 (B b : Nat) (q : Int) (dl : Int) (key too val : ByteArray) (l : List UInt8) (w : World) (hg : GB B w) (hkey : key.size ≤ 900000) (htoo : too.size ≤ 900000) (hval : val.size ≤ 900000) (hD : Bd 59 B b l w) (hbs : b < w.heap.size) (hl : l.length ≤ 1048576) :
    Calls Tryz.prog 51 #[.pointer (some ⟨b, 0, none⟩), .agg #[.int .u8 1, .int .i64 q, .string key, .string too, .string val, .int .u64 dl]] w fun e w' => e = .returned (.tuple #[]) ∧ PK B b (l ++ lineL [wPut, tokB key, tokB val]) w w' := by
  have HG := Lib.hid hg
  have HS := Lib.hid (And.intro hkey (And.intro htoo hval))
  have HL := Lib.hid hl
  have HBS := Lib.hid hbs
  have HP0 := Lib.hid (PK.start hD)
  clear hg hkey htoo hval hD hbs hl
  obtain ⟨W0, hW0⟩ : ∃ W0, W0 = w.alloc (.cells #[.int .u8 1, .int .i64 q, .string key, .string too, .string val, .int .u64 dl] 51) := ⟨_, rfl⟩
  have B0 := Lib.hid (show Below w.heap.size w W0 by rw [hW0]; exact alb w _)
  have Z0 := Lib.hid (show W0.heap[w.heap.size]? = some (.cells #[.int .u8 1, .int .i64 q, .string key, .string too, .string val, .int .u64 dl] 51) by rw [hW0]; exact heap_alloc_new w _)
  obtain ⟨c0, c1, c2, c3, c4, c5⟩ := cells6 Z0.out
  go_enter Tryz.func51, Tryz.ntmps51
  go_upto_region 1 with fail
  rw [← hW0]
  clear hW0
  go_wp2_with (first
    | (go_at_call 19; ((with_reducible refine (token_any key (by have := HS.out.1; omega) _).mono ?_); rintro e w1 ⟨rfl, b1⟩; have B1 := Lib.hid (bel_trans B0.out b1); have Z1 := Lib.hid (keep_bel b1 Z0.out); obtain ⟨c0, c1, c2, c3, c4, c5⟩ := cells6 Z1.out; clear b1))
    | (go_at_call 19; ((with_reducible refine (token_any val (by have := HS.out.2.2; omega) _).mono ?_); rintro e w2 ⟨rfl, b1⟩; have B2 := Lib.hid (bel_trans B1.out b1); have Z2 := Lib.hid (keep_bel b1 Z1.out); obtain ⟨c0, c1, c2, c3, c4, c5⟩ := cells6 Z2.out; clear b1))
    | (go_at_call 24; ((refine (line_any B b _ 3 3 [wPut, tokB key, tokB val] l _ rfl (by omega) (WB.lit w2 #[.string wPut, .string (tokB key), .string (tokB val)] [wPut, tokB key, tokB val] rfl) (HP0.out.later (bel_alloc B2.out _) HG.out.le).d (Nat.le_trans HG.out.le (bel_alloc B2.out _).size) HL.out (by intro x hx; simp only [List.mem_cons, List.not_mem_nil, or_false] at hx; rcases hx with rfl | rfl | rfl <;> first | decide | exact tok_sz HS.out.1 | exact tok_sz HS.out.2.2 ) (by have := HBS.out; have := B2.out.size; omega)).mono ?_); rintro e w9 ⟨rfl, p2⟩; have P2 := Lib.hid ((HP0.out.later (bel_alloc B2.out _) HG.out.le).then p2); clear p2))
    | fail)
  go_end0
  exact ⟨rfl, P2.out⟩
set_option maxHeartbeats 2000000 in
set_option maxRecDepth 100000 in
theorem pmsg_2 (B b : Nat) (q : Int) (dl : Int) (key too val : ByteArray) (l : List UInt8) (w : World) (hg : GB B w) (hkey : key.size ≤ 900000) (htoo : too.size ≤ 900000) (hval : val.size ≤ 900000) (hD : Bd 59 B b l w) (hbs : b < w.heap.size) (hl : l.length ≤ 1048576) :
    Calls Tryz.prog 51 #[.pointer (some ⟨b, 0, none⟩), .agg #[.int .u8 2, .int .i64 q, .string key, .string too, .string val, .int .u64 dl]] w fun e w' => e = .returned (.tuple #[]) ∧ PK B b (l ++ lineL [wDel, tokB key]) w w' := by
  have HG := Lib.hid hg
  have HS := Lib.hid (And.intro hkey (And.intro htoo hval))
  have HL := Lib.hid hl
  have HBS := Lib.hid hbs
  have HP0 := Lib.hid (PK.start hD)
  clear hg hkey htoo hval hD hbs hl
  obtain ⟨W0, hW0⟩ : ∃ W0, W0 = w.alloc (.cells #[.int .u8 2, .int .i64 q, .string key, .string too, .string val, .int .u64 dl] 51) := ⟨_, rfl⟩
  have B0 := Lib.hid (show Below w.heap.size w W0 by rw [hW0]; exact alb w _)
  have Z0 := Lib.hid (show W0.heap[w.heap.size]? = some (.cells #[.int .u8 2, .int .i64 q, .string key, .string too, .string val, .int .u64 dl] 51) by rw [hW0]; exact heap_alloc_new w _)
  obtain ⟨c0, c1, c2, c3, c4, c5⟩ := cells6 Z0.out
  go_enter Tryz.func51, Tryz.ntmps51
  go_upto_region 1 with fail
  rw [← hW0]
  clear hW0
  go_wp2_with (first
    | (go_at_call 19; ((with_reducible refine (token_any key (by have := HS.out.1; omega) _).mono ?_); rintro e w1 ⟨rfl, b1⟩; have B1 := Lib.hid (bel_trans B0.out b1); have Z1 := Lib.hid (keep_bel b1 Z0.out); obtain ⟨c0, c1, c2, c3, c4, c5⟩ := cells6 Z1.out; clear b1))
    | (go_at_call 24; ((refine (line_any B b _ 2 2 [wDel, tokB key] l _ rfl (by omega) (WB.lit w1 #[.string wDel, .string (tokB key)] [wDel, tokB key] rfl) (HP0.out.later (bel_alloc B1.out _) HG.out.le).d (Nat.le_trans HG.out.le (bel_alloc B1.out _).size) HL.out (by intro x hx; simp only [List.mem_cons, List.not_mem_nil, or_false] at hx; rcases hx with rfl | rfl <;> first | decide | exact tok_sz HS.out.1 ) (by have := HBS.out; have := B1.out.size; omega)).mono ?_); rintro e w9 ⟨rfl, p2⟩; have P2 := Lib.hid ((HP0.out.later (bel_alloc B1.out _) HG.out.le).then p2); clear p2))
    | fail)
  go_end0
  exact ⟨rfl, P2.out⟩
set_option maxHeartbeats 2000000 in
set_option maxRecDepth 100000 in
theorem pmsg_3 (B b : Nat) (q : Int) (d : Nat) (key too val : ByteArray) (l : List UInt8) (w : World) (hg : GB B w) (hkey : key.size ≤ 900000) (htoo : too.size ≤ 900000) (hval : val.size ≤ 900000) (hd : d ≤ 18446744073709551615) (hD : Bd 59 B b l w) (hbs : b < w.heap.size) (hl : l.length ≤ 1048576) :
    Calls Tryz.prog 51 #[.pointer (some ⟨b, 0, none⟩), .agg #[.int .u8 3, .int .i64 q, .string key, .string too, .string val, .int .u64 (d : Int)]] w fun e w' => e = .returned (.tuple #[]) ∧ PK B b (l ++ lineL [wAdd, tokB key, utoaB d]) w w' := by
  have HG := Lib.hid hg
  have HS := Lib.hid (And.intro hkey (And.intro htoo hval))
  have HL := Lib.hid hl
  have HBS := Lib.hid hbs
  have HP0 := Lib.hid (PK.start hD)
  have HD := Lib.hid hd
  clear hg hkey htoo hval hD hbs hl hd
  obtain ⟨W0, hW0⟩ : ∃ W0, W0 = w.alloc (.cells #[.int .u8 3, .int .i64 q, .string key, .string too, .string val, .int .u64 (d : Int)] 51) := ⟨_, rfl⟩
  have B0 := Lib.hid (show Below w.heap.size w W0 by rw [hW0]; exact alb w _)
  have Z0 := Lib.hid (show W0.heap[w.heap.size]? = some (.cells #[.int .u8 3, .int .i64 q, .string key, .string too, .string val, .int .u64 (d : Int)] 51) by rw [hW0]; exact heap_alloc_new w _)
  obtain ⟨c0, c1, c2, c3, c4, c5⟩ := cells6 Z0.out
  go_enter Tryz.func51, Tryz.ntmps51
  go_upto_region 1 with fail
  rw [← hW0]
  clear hW0
  go_wp2_with (first
    | (go_at_call 19; ((with_reducible refine (token_any key (by have := HS.out.1; omega) _).mono ?_); rintro e w1 ⟨rfl, b1⟩; have B1 := Lib.hid (bel_trans B0.out b1); have Z1 := Lib.hid (keep_bel b1 Z0.out); obtain ⟨c0, c1, c2, c3, c4, c5⟩ := cells6 Z1.out; clear b1))
    | (go_at_call 71; ((with_reducible refine (futoa_any d HD.out _ (HG.out.later B1.out).gw).mono ?_); rintro e w2 ⟨rfl, b1⟩; have B2 := Lib.hid (bel_trans B1.out b1); have Z2 := Lib.hid (keep_bel b1 Z1.out); obtain ⟨c0, c1, c2, c3, c4, c5⟩ := cells6 Z2.out; clear b1))
    | (go_at_call 24; ((refine (line_any B b _ 3 3 [wAdd, tokB key, utoaB d] l _ rfl (by omega) (WB.lit w2 #[.string wAdd, .string (tokB key), .string (utoaB d)] [wAdd, tokB key, utoaB d] rfl) (HP0.out.later (bel_alloc B2.out _) HG.out.le).d (Nat.le_trans HG.out.le (bel_alloc B2.out _).size) HL.out (by intro x hx; simp only [List.mem_cons, List.not_mem_nil, or_false] at hx; rcases hx with rfl | rfl | rfl <;> first | decide | exact tok_sz HS.out.1 | exact utoa_sz d HD.out ) (by have := HBS.out; have := B2.out.size; omega)).mono ?_); rintro e w9 ⟨rfl, p2⟩; have P2 := Lib.hid ((HP0.out.later (bel_alloc B2.out _) HG.out.le).then p2); clear p2))
    | fail)
  go_end0
  exact ⟨rfl, P2.out⟩
set_option maxHeartbeats 2000000 in
set_option maxRecDepth 100000 in
theorem pmsg_4 (B b : Nat) (q : Int) (dl : Int) (key too val : ByteArray) (l : List UInt8) (w : World) (hg : GB B w) (hkey : key.size ≤ 900000) (htoo : too.size ≤ 900000) (hval : val.size ≤ 900000) (hD : Bd 59 B b l w) (hbs : b < w.heap.size) (hl : l.length ≤ 1048576) :
    Calls Tryz.prog 51 #[.pointer (some ⟨b, 0, none⟩), .agg #[.int .u8 4, .int .i64 q, .string key, .string too, .string val, .int .u64 dl]] w fun e w' => e = .returned (.tuple #[]) ∧ PK B b (l ++ lineL [wClr, tokB key, tokB too]) w w' := by
  have HG := Lib.hid hg
  have HS := Lib.hid (And.intro hkey (And.intro htoo hval))
  have HL := Lib.hid hl
  have HBS := Lib.hid hbs
  have HP0 := Lib.hid (PK.start hD)
  clear hg hkey htoo hval hD hbs hl
  obtain ⟨W0, hW0⟩ : ∃ W0, W0 = w.alloc (.cells #[.int .u8 4, .int .i64 q, .string key, .string too, .string val, .int .u64 dl] 51) := ⟨_, rfl⟩
  have B0 := Lib.hid (show Below w.heap.size w W0 by rw [hW0]; exact alb w _)
  have Z0 := Lib.hid (show W0.heap[w.heap.size]? = some (.cells #[.int .u8 4, .int .i64 q, .string key, .string too, .string val, .int .u64 dl] 51) by rw [hW0]; exact heap_alloc_new w _)
  obtain ⟨c0, c1, c2, c3, c4, c5⟩ := cells6 Z0.out
  go_enter Tryz.func51, Tryz.ntmps51
  go_upto_region 1 with fail
  rw [← hW0]
  clear hW0
  go_wp2_with (first
    | (go_at_call 19; ((with_reducible refine (token_any key (by have := HS.out.1; omega) _).mono ?_); rintro e w1 ⟨rfl, b1⟩; have B1 := Lib.hid (bel_trans B0.out b1); have Z1 := Lib.hid (keep_bel b1 Z0.out); obtain ⟨c0, c1, c2, c3, c4, c5⟩ := cells6 Z1.out; clear b1))
    | (go_at_call 19; ((with_reducible refine (token_any too (by have := HS.out.2.1; omega) _).mono ?_); rintro e w2 ⟨rfl, b1⟩; have B2 := Lib.hid (bel_trans B1.out b1); have Z2 := Lib.hid (keep_bel b1 Z1.out); obtain ⟨c0, c1, c2, c3, c4, c5⟩ := cells6 Z2.out; clear b1))
    | (go_at_call 24; ((refine (line_any B b _ 3 3 [wClr, tokB key, tokB too] l _ rfl (by omega) (WB.lit w2 #[.string wClr, .string (tokB key), .string (tokB too)] [wClr, tokB key, tokB too] rfl) (HP0.out.later (bel_alloc B2.out _) HG.out.le).d (Nat.le_trans HG.out.le (bel_alloc B2.out _).size) HL.out (by intro x hx; simp only [List.mem_cons, List.not_mem_nil, or_false] at hx; rcases hx with rfl | rfl | rfl <;> first | decide | exact tok_sz HS.out.1 | exact tok_sz HS.out.2.1 ) (by have := HBS.out; have := B2.out.size; omega)).mono ?_); rintro e w9 ⟨rfl, p2⟩; have P2 := Lib.hid ((HP0.out.later (bel_alloc B2.out _) HG.out.le).then p2); clear p2))
    | fail)
  go_end0
  exact ⟨rfl, P2.out⟩
theorem pmsg_any (B b : Nat) (m : M) (l : List UInt8) (w : World) (hg : GB B w) (hm : MOk m) (hD : Bd 59 B b l w) (hbs : b < w.heap.size) (hl : l.length ≤ 1048576) :
    Calls Tryz.prog 51 #[.pointer (some ⟨b, 0, none⟩), m.v] w fun e w' => e = .returned (.tuple #[]) ∧ PK B b (l ++ lineL (mWords m)) w w' := by
  obtain ⟨hk, h1, h2, h3, h4, h5⟩ := hm
  obtain ⟨k, q, key, too, val, dl⟩ := m
  simp only at hk h1 h2 h3 h4 h5
  rcases hk with rfl | rfl | rfl | rfl
  · exact pmsg_1 B b q dl key too val l w hg h1 h2 h3 hD hbs hl
  · exact pmsg_2 B b q dl key too val l w hg h1 h2 h3 hD hbs hl
  · obtain ⟨d, rfl⟩ : ∃ d : Nat, dl = d := ⟨dl.toNat, by omega⟩
    exact pmsg_3 B b q d key too val l w hg h1 h2 h3 (by omega) hD hbs hl
  · exact pmsg_4 B b q dl key too val l w hg h1 h2 h3 hD hbs hl
end Go.Proofs.YtelpkajlejbbgaaGreatDoor
