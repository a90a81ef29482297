/- The library's Repeat of one letter, up to twice. -/
import Derived.Test.YtnchpfmpjpnciaaL2
import Derived.Test.YtnchpfmpjpnciaaA1
namespace Go.Proofs.Ytnchpfmpjpnciaa
set_option linter.unusedSimpArgs false
open Go.RowKit Go.Shelf
set_option linter.unusedVariables false
set_option maxHeartbeats 2000000 in
set_option maxRecDepth 1000000 in
theorem grow_fresh (B b n : Nat) (w : World) (hB : B ≤ b) (hbk : w.heap[b]? = some (.cells #[.pointer (some ⟨b, 0, none⟩), .slice none 0 0] 69 (0, 0))) (hBw : B ≤ w.heap.size) (hn : n ≤ 281474976710656) :
    Calls Try.prog 45 #[.pointer (some ⟨b, 0, none⟩), .int .i64 n] w fun e w' => e = .returned (.tuple #[]) ∧ (Lib.BuilderAt 69 5 B b (.pointer (some ⟨b, 0, none⟩)) [] w' ∧ Below B w w') := by
  obtain ⟨cs, hrun, hle, hmax⟩ := Lib.run_makeNoZero (P := Try.prog) w.drew #[3] 67 5 Try.underlying67 n hn
  have hw : IntKind.i64.wrap (IntKind.i64.wrap 0 + (n : Int)) = n := by
    rw [IntKind.wrap_i64, IntKind.wrap_i64]
    omega
  have hcall0 : (callFunc 47 #[.int .i64 (n : Int)]).run Try.prog w.drew = .ok (.value (.slice (some ⟨w.drew.heap.size, 0, none⟩) n cs.size)) (w.drew.drew.drew.alloc (.cells cs 5)) := by
    rw [run_callFunc_extern Try.func47 (by kernel_rfl) (by kernel_rfl) (by kernel_rfl) (e := Extern.BytealgMakeNoZero.makeNoZero #[3] #[67]) (by kernel_rfl), hrun]
    rfl
  have hcall : (callFunc 47 #[.int .i64 (IntKind.i64.wrap (IntKind.i64.wrap 0 + (n : Int)))]).run Try.prog w.drew = .ok (.value (.slice (some ⟨w.drew.heap.size, 0, none⟩) n cs.size)) (w.drew.drew.drew.alloc (.cells cs 5)) := by
    rw [hw]; exact hcall0
  have c1 : w.drew.cell? ⟨b, 1, none⟩ = some (.slice none 0 0) := by
    have : w.drew.heap[b]? = _ := hbk
    rw [Lib.cell_of_heap this]; rfl
  have hlt : b < w.heap.size := by
    rcases Nat.lt_or_ge b w.heap.size with h' | h'
    · exact h'
    · simp [Array.getElem?_eq_none h'] at hbk
  have c2 : (w.alloc (.cells cs 5)).cell? ⟨b, 1, none⟩ = some (.slice none 0 0) := by
    have : (w.alloc (.cells cs 5)).heap[b]? = _ := (Lib.alloc_old w _ b hlt).trans hbk
    rw [Lib.cell_of_heap this]; rfl
  have f2 : (w.alloc (.cells cs 5)).frozen? ⟨b, 1, none⟩ = false := Lib.frozen_of_heap ((Lib.alloc_old w _ b hlt).trans hbk) 1
  have hcopy : ∀ W : World, (Builtin.copy_ #[67, 67] 3 #[.slice (some ⟨w.heap.size, 0, none⟩) 0 cs.size, .slice none 0 0]).run Try.prog W = .ok (goInt 0) W :=
    fun W => run_copy_none W 67 67 3 5 _ _ 0 cs.size 0 0 Try.underlying67 (by kernel_rfl) rfl
  clear hw hlt
  go_enter Try.func45, Try.ntmps45
  go_wp2
  have hfin := Lib.grown_fresh (T := 69) (e := 5) (cs := cs) hB hbk hBw (hmax (by unfold maxLen; omega)) (by decide)
  go_region
  all_goals (go_wp2; go_end0; exact ⟨rfl, hfin⟩)
set_option maxHeartbeats 2000000 in
set_option maxRecDepth 1000000 in
theorem Grow_fresh (B b n : Nat) (w : World) (hB : B ≤ b) (hbk : w.heap[b]? = some (.cells #[.pointer none, .slice none 0 0] 69 (0, 0))) (hBw : B ≤ w.heap.size) (hn : n ≤ 281474976710656) :
    Calls Try.prog 36 #[.pointer (some ⟨b, 0, none⟩), .int .i64 n] w fun e w' => e = .returned (.tuple #[]) ∧ (Lib.BuilderAt 69 5 B b (.pointer (some ⟨b, 0, none⟩)) [] w' ∧ Below B w w') := by
  have hbk1 : (w.setCell ⟨b, 0, none⟩ (.pointer (some ⟨b, 0, none⟩))).heap[b]? = some (.cells #[.pointer (some ⟨b, 0, none⟩), .slice none 0 0] 69 (0, 0)) := by
    simp [World.setCell, Array.getElem?_modify, hbk]
  have c1 : (w.setCell ⟨b, 0, none⟩ (.pointer (some ⟨b, 0, none⟩))).cell? ⟨b, 1, none⟩ = some (.slice none 0 0) := by rw [Lib.cell_of_heap hbk1]; rfl
  have hb1 : Below B w (w.setCell ⟨b, 0, none⟩ (.pointer (some ⟨b, 0, none⟩))) := (Below.refl B w).setCell (p := ⟨b, 0, none⟩) hB _
  go_enter Try.func36, Try.ntmps36
  have hU : Lib.BuilderAt 69 5 B b (.pointer (some ⟨b, 0, none⟩)) [] (w.setCell ⟨b, 0, none⟩ (.pointer (some ⟨b, 0, none⟩))) := ⟨hB, .slice none 0 0, hbk1, World.ownsRow_nil _ _ _ _, by simp [Value.ownBlock]⟩
  have c1' : (w.setCell ⟨b, 0, none⟩ (.pointer (some ⟨b, 0, none⟩))).drew.cell? ⟨b, 1, none⟩ = some (.slice none 0 0) := c1
  go_wp2_with (go_at_call 33; refine (check_fresh b w (by rw [Lib.cell_of_heap hbk]; rfl) (by simp [World.shape?, hbk]) (Lib.frozen_of_heap hbk 0)).mono ?_; rintro e w' ⟨rfl, rfl⟩)
  go_region
  all_goals go_wp2_with (go_at_call 45; refine (grow_fresh B b n (w.setCell ⟨b, 0, none⟩ (.pointer (some ⟨b, 0, none⟩))).drew hB hbk1 (by simpa [World.setCell, World.drew, -World.drew_eq] using hBw) hn).mono ?_; rintro e w' ⟨rfl, h1, h2⟩)
  all_goals first
    | (go_end0; exact ⟨rfl, h1, hb1.drew.trans h2⟩)
    | (go_end0; exact ⟨rfl, hU.drew, hb1.drew⟩)
theorem string_keep (B b : Nat) (l : List UInt8) (w : World) (h : Bd B b l w) (hBw : B ≤ w.heap.size) :
    Calls Try.prog 26 #[.pointer (some ⟨b, 0, none⟩)] w fun e w' => e = .returned (.string ⟨l.toArray⟩) ∧ Bd B b l w' ∧ Below B w w' :=
  (Any.Builder_String_any_k layS extS B b l w h hBw).mono fun e w' ⟨h1, h2, h3, h4⟩ => ⟨h1, h2, h3⟩
theorem mul_12 (w : World) : Calls Try.prog 34 #[.int .u64 1, .int .u64 2] w fun e w' => e = .returned (.tuple #[.int .u64 0, .int .u64 2]) ∧ w = w' := by
  have h : Calls Try.prog 43 #[.int .u64 1, .int .u64 2] w fun e w' => e = .returned (.tuple #[.int .u64 0, .int .u64 2]) ∧ w = w' := by
    have m1 : bits BinOp.and IntKind.u64 1 4294967295 = 1 := by kernel_rfl
    have m2 : bits BinOp.and IntKind.u64 2 4294967295 = 2 := by kernel_rfl
    go_enter Try.func43, Try.ntmps43
    go_wp2
    go_ret2
    refine ⟨?_, rfl⟩
    kernel_rfl
  go_enter Try.func34, Try.ntmps34
  go_wp2_with (first
    | (go_at_call 43; ((with_reducible refine h.mono ?_); rintro e w1 ⟨rfl, rfl⟩))
    | fail)
  go_ret2
  exact ⟨rfl, rfl⟩

set_option maxHeartbeats 2000000 in
set_option maxRecDepth 1000000 in
theorem repeat_2 (w : World) : Calls Try.prog 28 #[.string ⟨#[120]⟩, .int .i64 2] w fun e w' => e = .returned (.string ⟨#[120, 120]⟩) ∧ Below w.heap.size w w' := by
  have HN := Lib.hid (heap_alloc_new w (.cells #[.pointer none, .slice none 0 0] 69))
  have hb0 : Below w.heap.size w (w.alloc (.cells #[.pointer none, .slice none 0 0] 69)) := by go_grown
  have B0 := Lib.hid hb0
  have GF : Hid (Calls Try.prog 36 #[.pointer (some ⟨w.heap.size, 0, none⟩), .int .i64 2] (w.alloc (.cells #[.pointer none, .slice none 0 0] 69)) fun e w' => e = .returned (.tuple #[]) ∧ (Lib.BuilderAt 69 5 w.heap.size w.heap.size (.pointer (some ⟨w.heap.size, 0, none⟩)) [] w' ∧ Below w.heap.size (w.alloc (.cells #[.pointer none, .slice none 0 0] 69)) w')) := Lib.hid (Grow_fresh w.heap.size w.heap.size 2 _ (Nat.le_refl _) HN.out (by simp) (by omega))
  clear hb0
  go_enter Try.func28, Try.ntmps28
  go_wp2_with (first
    | (go_at_call 34; ((with_reducible refine (mul_12 _).mono ?_); rintro e w1 ⟨rfl, rfl⟩))
    | (go_at_call 36; ((with_reducible refine GF.out.mono ?_); rintro e w2 ⟨rfl, h2, b2⟩; have H2 : Hid (Bd w.heap.size w.heap.size [] w2) := Lib.hid (Lib.IsBuilderF.of (.inr h2)); have B2 := Lib.hid (B0.out.trans b2); clear h2 b2))
    | (go_at_call 37; ((with_reducible refine (writeString_any w.heap.size w.heap.size [] ⟨#[120]⟩ _ H2.out (by decide) B2.out.size).mono ?_); rintro e w3 ⟨rfl, h3, b3, _⟩; have H3 := Lib.hid h3; have B3 := Lib.hid (B2.out.trans b3); clear h3 b3))
    | fail)
  clear H2 HN GF
  go_loopw [10] (fun iv wr => ∃ l : List UInt8, ((iv = undef ∧ l = [120]) ∨ (iv = .int .i64 1 ∧ l = [120, 120])) ∧ Bd w.heap.size w.heap.size l wr ∧ Below w.heap.size w wr) (fun i _ => 1 - (intOf i).toNat)
  case atStart => exact ⟨[120], .inl ⟨rfl, rfl⟩, H3.out, B3.out⟩
  case round =>
    obtain ⟨l, hl, hbd, hbl⟩ := hrel
    have HBD := Lib.hid hbd
    have HBL := Lib.hid hbl
    clear hbd hbl H3 B3
    rcases hl with ⟨rfl, rfl⟩ | ⟨rfl, rfl⟩
    · have LN : Hid (Calls Try.prog 38 #[.pointer (some ⟨w.heap.size, 0, none⟩)] wr fun e w' => e = .returned (.int .i64 1) ∧ wr = w') := Lib.hid (len_any _ _ _ _ HBD.out)
      have SG : Hid (Calls Try.prog 26 #[.pointer (some ⟨w.heap.size, 0, none⟩)] wr fun e w' => e = .returned (.string ⟨#[120]⟩) ∧ Bd w.heap.size w.heap.size [120] w' ∧ Below w.heap.size wr w') := Lib.hid (string_keep _ _ _ _ HBD.out HBL.out.size)
      have hx : (⟨#[120]⟩ : ByteArray).extract 0 1 = ⟨#[120]⟩ := by decide
      go_wp2_with (first
        | (go_at_call 38; ((with_reducible refine LN.out.mono ?_); rintro e w5 ⟨rfl, rfl⟩))
        | (go_at_call 26; ((with_reducible refine SG.out.mono ?_); rintro e w6 ⟨rfl, d6, b6⟩; have D6 := Lib.hid d6; have B6 := Lib.hid (HBL.out.trans b6); clear d6 b6))
        | (go_at_call 37; ((with_reducible refine (writeString_any w.heap.size w.heap.size [120] ⟨#[120]⟩ _ D6.out (by decide) B6.out.size).mono ?_); rintro e w7 ⟨rfl, d7, b7, _⟩; have D7 := Lib.hid d7; have B7 := Lib.hid (B6.out.trans b7); clear d7 b7))
        | fail)
      exact ⟨⟨[120, 120], .inr ⟨rfl, rfl⟩, D7.out, B7.out⟩, by decide⟩
    · have LN : Hid (Calls Try.prog 38 #[.pointer (some ⟨w.heap.size, 0, none⟩)] wr fun e w' => e = .returned (.int .i64 2) ∧ wr = w') := Lib.hid (len_any _ _ _ _ HBD.out)
      have SG : Hid (Calls Try.prog 26 #[.pointer (some ⟨w.heap.size, 0, none⟩)] wr fun e w' => e = .returned (.string ⟨#[120, 120]⟩) ∧ Bd w.heap.size w.heap.size [120, 120] w' ∧ Below w.heap.size wr w') := Lib.hid (string_keep _ _ _ _ HBD.out HBL.out.size)
      go_wp2_with (first
        | (go_at_call 38; ((with_reducible refine LN.out.mono ?_); rintro e w5 ⟨rfl, rfl⟩))
        | (go_at_call 26; ((with_reducible refine SG.out.mono ?_); rintro e w6 ⟨rfl, d6, b6⟩; have D6 := Lib.hid d6; have B6 := Lib.hid (HBL.out.trans b6); clear d6 b6))
        | fail)
      go_ret
      exact ⟨rfl, B6.out⟩
/-- The letter, so many times. -/
def xs (n : Int) : ByteArray := if n < 1 then ⟨#[]⟩ else if n < 2 then ⟨#[120]⟩ else ⟨#[120, 120]⟩
set_option maxHeartbeats 2000000 in
set_option maxRecDepth 1000000 in
theorem repeat_any (n : Int) (h0 : 0 ≤ n) (h3 : n < 3) (w : World) : Calls Try.prog 28 #[.string ⟨#[120]⟩, .int .i64 n] w fun e w' => e = .returned (.string (xs n)) ∧ Below w.heap.size w w' := by
  obtain rfl | rfl | rfl : n = 0 ∨ n = 1 ∨ n = 2 := by omega
  · go_enter Try.func28, Try.ntmps28
    go_wp2
    go_ret
    exact ⟨rfl, Below.refl _ _⟩
  · go_enter Try.func28, Try.ntmps28
    go_wp2
    go_ret
    exact ⟨rfl, Below.refl _ _⟩
  · exact repeat_2 w
end Go.Proofs.Ytnchpfmpjpnciaa
