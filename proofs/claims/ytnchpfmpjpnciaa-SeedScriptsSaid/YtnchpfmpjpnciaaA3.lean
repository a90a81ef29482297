/- Messages of a source, on both sides. -/
import Derived.Laws.CopyOwn
import Derived.Laws.Rows
import Derived.Laws.Tables
import Derived.Test.YtnchpfmpjpnciaaA2
namespace Go.Proofs.Ytnchpfmpjpnciaa
set_option linter.unusedSimpArgs false
open Go.RowKit Go.Maps Go.Shelf
set_option linter.unusedVariables false
theorem info36 : (Try.prog.info? 36).map (·.size) = some 6 := by kernel_rfl
/-- A message's cells. -/
def mc (kind : Int) (k t v : ByteArray) (d : Int) : Array Value := #[.int .u8 kind, .int .i64 0, .string k, .string t, .string v, .int .u64 d]
theorem mc_one (kind : Int) (k t v : ByteArray) (d : Int) : (mc kind k t v d).all (·.oneCell') = true := by simp [mc, Value.oneCell']
theorem run_zm (w : World) : Sem.run Try.prog (zeroValue 36) w = Result.ok (Value.agg #[.int .u8 0, .int .i64 0, .string ⟨#[]⟩, .string ⟨#[]⟩, .string ⟨#[]⟩, .int .u64 0]) w := by
  kernel_rfl
theorem Eff.keep {t g x : Nat} {S : Int} {w w' : World} {o : Obj} (h : Eff t g S w w') (hx : x ≠ g) (ho : w.heap[x]? = some o) : w'.heap[x]? = some o :=
  (h.2.block x (by
    rcases Nat.lt_or_ge x w.heap.size with h' | h'
    · exact h'
    · simp [Array.getElem?_eq_none h'] at ho) hx).trans ho
theorem Eff.row {t g x : Nat} {S : Int} {w w' : World} (h : Eff t g S w w') (hx : w.heap.size ≤ x) (hg : g < w.heap.size) (cs : Array Value) : Eff t g S w (w'.setRow x cs) :=
  h.low (below_setRow (Below.refl x w') (Nat.le_refl _) cs) hx (by omega)
theorem keep_bel {w w' : World} {x : Nat} {o : Obj} (h : Below w.heap.size w w') (ho : w.heap[x]? = some o) : w'.heap[x]? = some o :=
  (h.block x (by
    rcases Nat.lt_or_ge x w.heap.size with h' | h'
    · exact h'
    · simp [Array.getElem?_eq_none h'] at ho)).trans ho
def msgA (n S : Int) : Array Value :=
  if n = 7 then mc 4 (keyB S 4 1) (keyB S 4 1 ++ ⟨#[122]⟩) ⟨#[]⟩ 0
  else if n = 4 then mc 2 (keyB S 4 2) ⟨#[]⟩ ⟨#[]⟩ 0
  else if n > 4 then mc 3 (keyB S 4 2) ⟨#[]⟩ ⟨#[]⟩ (bl (keyS S 4 2) 100)
  else mc 1 (keyB S 4 2) ⟨#[]⟩ (xs (bl (keyS S 4 2) 3)) 0
def msgS (n S : Int) : Int :=
  if n = 7 then keyS S 4 1
  else if n = 4 then keyS S 4 2
  else if n > 4 then bs (keyS S 4 2) 100
  else bs (keyS S 4 2) 3
theorem res36 {f : Func} (hf : f.results = #[.cell 2 36]) (tmps : Array Value) (w : World) (g : Nat) (cs : Array Value) (hp : tmps.getD 2 undef = .pointer (some ⟨g, 0, none⟩)) (hg : w.heap[g]? = some (.cells cs 36 (0, 0))) (hi : cs.size = 6) :
    (results f tmps).run Try.prog w = .ok (.agg cs) w := by
  have hp' : tmps[2]?.getD undef = .pointer (some ⟨g, 0, none⟩) := by simpa using hp
  simp [results, hf, hp', asAddr, run_loadVar_row w g 36 36 cs (0, 0) _ hg Try.underlying36 rfl (by rw [hi]; exact info36)]
theorem keyB_size (S L M : Int) : (keyB S L M).size ≤ 16 := by
  show (kbs _ _ _).toArray.size ≤ 16
  rw [List.size_toArray, kbs_length]; exact (keyN_cast S M).2

set_option maxHeartbeats 2000000 in
set_option maxRecDepth 4000 in
theorem msg_p {w : World} {g : Nat} {S : Int} (h : Src w 63 g S) :
    Calls Try.prog 12 #[.pointer (some ⟨g, 0, none⟩)] w fun e w' => e = .returned (.agg (msgA (bl S 8) (bs S 8))) ∧ Eff 63 g (msgS (bl S 8) (bs S 8)) w w' := by
  have hal := run_zm
  have hG := h.lt
  have hG2 : ¬ w.heap.size = g := by omega
  have hb0 : Below w.heap.size w (w.alloc (.cells #[.int .u8 0, .int .i64 0, .string ⟨#[]⟩, .string ⟨#[]⟩, .string ⟨#[]⟩, .int .u64 0] 36)) := by go_grown
  have HE : Hid (Eff 63 g S w (w.alloc (.cells #[.int .u8 0, .int .i64 0, .string ⟨#[]⟩, .string ⟨#[]⟩, .string ⟨#[]⟩, .int .u64 0] 36))) := Lib.hid (Eff.later ⟨h, Chg.refl _ _⟩ hb0)
  have B8 := Lib.hid (below_p 8 HE.out.1 (by omega))
  have Z0 := Lib.hid (heap_alloc_new w (.cells #[.int .u8 0, .int .i64 0, .string ⟨#[]⟩, .string ⟨#[]⟩, .string ⟨#[]⟩, .int .u64 0] 36))
  have hr := bl_range S 8 (by omega)
  generalize bl S 8 = n at *
  generalize bs S 8 = S1 at *
  clear h hb0
  have hn : (0 ≤ n ∧ n < 4) ∨ n = 4 ∨ n = 5 ∨ n = 6 ∨ n = 7 := by omega
  rcases hn with hn | rfl | rfl | rfl | rfl
  · have eA : msgA n S1 = mc 1 (keyB S1 4 2) ⟨#[]⟩ (xs (bl (keyS S1 4 2) 3)) 0 := by unfold msgA; rw [if_neg (by omega), if_neg (by omega), if_neg (by omega)]
    have eS : msgS n S1 = bs (keyS S1 4 2) 3 := by unfold msgS; rw [if_neg (by omega), if_neg (by omega), if_neg (by omega)]
    have hx := bl_range (keyS S1 4 2) 3 (by omega)
    rw [eA, eS]
    have q4 : (n == 4) = false := by simp; omega
    have q5 : (n == 5) = false := by simp; omega
    have q6 : (n == 6) = false := by simp; omega
    have q7 : (n == 7) = false := by simp; omega
    generalize hkk : keyS S1 4 2 = S2 at *
    have HKK := Lib.hid hkk
    generalize hxx : bl S2 3 = x at *
    have HXX := Lib.hid hxx
    have HX := Lib.hid hx
    clear eA eS hkk hxx hx
    go_enter Try.func12, Try.ntmps12
    go_wp2_with (first
      | (go_at_call 8; ((with_reducible refine B8.out.mono ?_); rintro e w1 ⟨rfl, h1⟩; have H1 := Lib.hid (HE.out.trans h1); have Z1 := Lib.hid (h1.keep hG2 Z0.out); have HS1 := Lib.hid h1.src; clear h1))
      | (go_at_call 10; ((with_reducible refine (key_p 4 2 HS1.out).mono ?_); rintro e w2 ⟨rfl, h2⟩; have H2 := Lib.hid (H1.out.trans h2); have Z2 := Lib.hid (h2.keep hG2 Z1.out); have HS2 := Lib.hid h2.src; clear h2; rw [HKK.out] at H2 HS2; have B3 := Lib.hid (below_p 3 HS2.out (by omega)); rw [HXX.out] at B3))
      | (go_at_call 8; ((with_reducible refine B3.out.mono ?_); rintro e w3 ⟨rfl, h3⟩; have H3 := Lib.hid (H2.out.trans h3); have Z3 := Lib.hid (h3.keep hG2 Z2.out); clear h3))
      | (go_at_call 28; ((with_reducible refine (repeat_any x HX.out.1 HX.out.2 _).mono ?_); rintro e w4 ⟨rfl, b4⟩; have H4 := Lib.hid (H3.out.later b4); have Z4 := Lib.hid (keep_bel b4 Z3.out); clear b4))
      | (refine wpList_store_row rfl 36 (.tmp 2) (.tmp 37) rfl w.heap.size (mc 1 (keyB S1 4 2) ⟨#[]⟩ (xs x) 0) rfl rfl 36 _ Z4.out info36 rfl (mc_one _ _ _ _ _) ?_)
      | fail)
    refine bodyPost_ret (v := .agg (mc 1 (keyB S1 4 2) ⟨#[]⟩ (xs x) 0)) (res36 rfl _ _ w.heap.size _ rfl (setRow_heap _ _ _ _ _ _ Z4.out) rfl) rfl ⟨rfl, H4.out.row (Nat.le_refl _) hG _⟩
  · rw [show msgA 4 S1 = mc 2 (keyB S1 4 2) ⟨#[]⟩ ⟨#[]⟩ 0 by unfold msgA; rw [if_neg (by decide), if_pos rfl], show msgS 4 S1 = keyS S1 4 2 by unfold msgS; rw [if_neg (by decide), if_pos rfl]]
    go_enter Try.func12, Try.ntmps12
    go_wp2_with (first
      | (go_at_call 8; ((with_reducible refine B8.out.mono ?_); rintro e w1 ⟨rfl, h1⟩; have H1 := Lib.hid (HE.out.trans h1); have Z1 := Lib.hid (h1.keep hG2 Z0.out); have HS1 := Lib.hid h1.src; clear h1))
      | (go_at_call 10; ((with_reducible refine (key_p 4 2 HS1.out).mono ?_); rintro e w2 ⟨rfl, h2⟩; have H2 := Lib.hid (H1.out.trans h2); have Z2 := Lib.hid (h2.keep hG2 Z1.out); have HS2 := Lib.hid h2.src; clear h2))
      | (refine wpList_store_row rfl 36 (.tmp 2) (.tmp 19) rfl w.heap.size (mc 2 (keyB S1 4 2) ⟨#[]⟩ ⟨#[]⟩ 0) rfl rfl 36 _ Z2.out info36 rfl (mc_one _ _ _ _ _) ?_)
      | fail)
    refine bodyPost_ret (v := .agg (mc 2 (keyB S1 4 2) ⟨#[]⟩ ⟨#[]⟩ 0)) (res36 rfl _ _ w.heap.size _ rfl (setRow_heap _ _ _ _ _ _ Z2.out) rfl) rfl ⟨rfl, H2.out.row (Nat.le_refl _) hG _⟩
  · have eA : msgA 5 S1 = mc 3 (keyB S1 4 2) ⟨#[]⟩ ⟨#[]⟩ (bl (keyS S1 4 2) 100) := by unfold msgA; rw [if_neg (by decide), if_neg (by decide), if_pos (by decide)]
    have eS : msgS 5 S1 = bs (keyS S1 4 2) 100 := by unfold msgS; rw [if_neg (by decide), if_neg (by decide), if_pos (by decide)]
    have hx := bl_range (keyS S1 4 2) 100 (by omega)
    rw [eA, eS]
    generalize hkk : keyS S1 4 2 = S2 at *
    have HKK := Lib.hid hkk
    generalize hxx : bl S2 100 = x at *
    have HXX := Lib.hid hxx
    have HX := Lib.hid hx
    clear eA eS hkk hxx hx
    have hxu : IntKind.u64.wrap x = x := by have := HX.out; simp [IntKind.wrap, IntKind.bits, IntKind.signed]; omega
    have hx0 := HX.out.1
    have hx1 := HX.out.2
    go_enter Try.func12, Try.ntmps12
    go_wp2_with (first
      | (go_at_call 8; ((with_reducible refine B8.out.mono ?_); rintro e w1 ⟨rfl, h1⟩; have H1 := Lib.hid (HE.out.trans h1); have Z1 := Lib.hid (h1.keep hG2 Z0.out); have HS1 := Lib.hid h1.src; clear h1))
      | (go_at_call 10; ((with_reducible refine (key_p 4 2 HS1.out).mono ?_); rintro e w2 ⟨rfl, h2⟩; have H2 := Lib.hid (H1.out.trans h2); have Z2 := Lib.hid (h2.keep hG2 Z1.out); have HS2 := Lib.hid h2.src; clear h2; rw [HKK.out] at H2 HS2; have B3 := Lib.hid (below_p 100 HS2.out (by omega)); rw [HXX.out] at B3))
      | (go_at_call 8; ((with_reducible refine B3.out.mono ?_); rintro e w3 ⟨rfl, h3⟩; have H3 := Lib.hid (H2.out.trans h3); have Z3 := Lib.hid (h3.keep hG2 Z2.out); clear h3))
      | (refine wpList_store_row rfl 36 (.tmp 2) (.tmp 25) rfl w.heap.size (mc 3 (keyB S1 4 2) ⟨#[]⟩ ⟨#[]⟩ x) rfl rfl 36 _ Z3.out info36 rfl (mc_one _ _ _ _ _) ?_)
      | fail)
    refine bodyPost_ret (v := .agg (mc 3 (keyB S1 4 2) ⟨#[]⟩ ⟨#[]⟩ x)) (res36 rfl _ _ w.heap.size _ rfl (setRow_heap _ _ _ _ _ _ Z3.out) rfl) rfl ⟨rfl, H3.out.row (Nat.le_refl _) hG _⟩
  · have eA : msgA 6 S1 = mc 3 (keyB S1 4 2) ⟨#[]⟩ ⟨#[]⟩ (bl (keyS S1 4 2) 100) := by unfold msgA; rw [if_neg (by decide), if_neg (by decide), if_pos (by decide)]
    have eS : msgS 6 S1 = bs (keyS S1 4 2) 100 := by unfold msgS; rw [if_neg (by decide), if_neg (by decide), if_pos (by decide)]
    have hx := bl_range (keyS S1 4 2) 100 (by omega)
    rw [eA, eS]
    generalize hkk : keyS S1 4 2 = S2 at *
    have HKK := Lib.hid hkk
    generalize hxx : bl S2 100 = x at *
    have HXX := Lib.hid hxx
    have HX := Lib.hid hx
    clear eA eS hkk hxx hx
    have hxu : IntKind.u64.wrap x = x := by have := HX.out; simp [IntKind.wrap, IntKind.bits, IntKind.signed]; omega
    have hx0 := HX.out.1
    have hx1 := HX.out.2
    go_enter Try.func12, Try.ntmps12
    go_wp2_with (first
      | (go_at_call 8; ((with_reducible refine B8.out.mono ?_); rintro e w1 ⟨rfl, h1⟩; have H1 := Lib.hid (HE.out.trans h1); have Z1 := Lib.hid (h1.keep hG2 Z0.out); have HS1 := Lib.hid h1.src; clear h1))
      | (go_at_call 10; ((with_reducible refine (key_p 4 2 HS1.out).mono ?_); rintro e w2 ⟨rfl, h2⟩; have H2 := Lib.hid (H1.out.trans h2); have Z2 := Lib.hid (h2.keep hG2 Z1.out); have HS2 := Lib.hid h2.src; clear h2; rw [HKK.out] at H2 HS2; have B3 := Lib.hid (below_p 100 HS2.out (by omega)); rw [HXX.out] at B3))
      | (go_at_call 8; ((with_reducible refine B3.out.mono ?_); rintro e w3 ⟨rfl, h3⟩; have H3 := Lib.hid (H2.out.trans h3); have Z3 := Lib.hid (h3.keep hG2 Z2.out); clear h3))
      | (refine wpList_store_row rfl 36 (.tmp 2) (.tmp 25) rfl w.heap.size (mc 3 (keyB S1 4 2) ⟨#[]⟩ ⟨#[]⟩ x) rfl rfl 36 _ Z3.out info36 rfl (mc_one _ _ _ _ _) ?_)
      | fail)
    refine bodyPost_ret (v := .agg (mc 3 (keyB S1 4 2) ⟨#[]⟩ ⟨#[]⟩ x)) (res36 rfl _ _ w.heap.size _ rfl (setRow_heap _ _ _ _ _ _ Z3.out) rfl) rfl ⟨rfl, H3.out.row (Nat.le_refl _) hG _⟩
  · rw [show msgA 7 S1 = mc 4 (keyB S1 4 1) (keyB S1 4 1 ++ ⟨#[122]⟩) ⟨#[]⟩ 0 by unfold msgA; rw [if_pos rfl], show msgS 7 S1 = keyS S1 4 1 by unfold msgS; rw [if_pos rfl]]
    have hsz : ¬ 9223372036854775807 < (keyB S1 4 1).size + 1 := by have := keyB_size S1 4 1; omega
    go_enter Try.func12, Try.ntmps12
    go_wp2_with (first
      | (go_at_call 8; ((with_reducible refine B8.out.mono ?_); rintro e w1 ⟨rfl, h1⟩; have H1 := Lib.hid (HE.out.trans h1); have Z1 := Lib.hid (h1.keep hG2 Z0.out); have HS1 := Lib.hid h1.src; clear h1))
      | (go_at_call 10; ((with_reducible refine (key_p 4 1 HS1.out).mono ?_); rintro e w2 ⟨rfl, h2⟩; have H2 := Lib.hid (H1.out.trans h2); have Z2 := Lib.hid (h2.keep hG2 Z1.out); have HS2 := Lib.hid h2.src; clear h2))
      | (refine wpList_store_row rfl 36 (.tmp 2) (.tmp 31) rfl w.heap.size (mc 4 (keyB S1 4 1) (keyB S1 4 1 ++ ⟨#[122]⟩) ⟨#[]⟩ 0) rfl rfl 36 _ Z2.out info36 rfl (mc_one _ _ _ _ _) ?_)
      | fail)
    refine bodyPost_ret (v := .agg (mc 4 (keyB S1 4 1) (keyB S1 4 1 ++ ⟨#[122]⟩) ⟨#[]⟩ 0)) (res36 rfl _ _ w.heap.size _ rfl (setRow_heap _ _ _ _ _ _ Z2.out) rfl) rfl ⟨rfl, H2.out.row (Nat.le_refl _) hG _⟩
end Go.Proofs.Ytnchpfmpjpnciaa
