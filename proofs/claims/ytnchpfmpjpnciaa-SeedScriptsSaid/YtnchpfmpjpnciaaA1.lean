/- The numbers of a source: Next, Below, and numbers in their range, on both sides. -/
import Derived.Test.YtnchpfmpjpnciaaL0
import Derived.Test.YtnchpfmpjpnciaaRows
namespace Go.Proofs.Ytnchpfmpjpnciaa
set_option linter.unusedSimpArgs false
open Go.RowKit Go.Maps
set_option linter.unusedVariables false
-- what changes, and what stays
structure Chg (D : Nat → Prop) (w w' : World) : Prop where
  os : w'.os = w.os
  tape : w'.tape = w.tape
  output : w'.output = w.output
  size : w.heap.size ≤ w'.heap.size
  block : ∀ g, g < w.heap.size → ¬ D g → w'.heap[g]? = w.heap[g]?
theorem Chg.refl (D : Nat → Prop) (w : World) : Chg D w w := ⟨rfl, rfl, rfl, Nat.le_refl _, fun _ _ _ => rfl⟩
theorem Chg.of_below {D : Nat → Prop} {w w' : World} (h : Below w.heap.size w w') : Chg D w w' := ⟨h.os, h.tape, h.output, h.size, fun g hg _ => h.block g hg⟩
theorem Chg.trans {F G : Nat → Prop} {w w1 w2 : World} (h : Chg F w w1) (k : Chg G w1 w2) (hG : ∀ g, G g → F g ∨ w.heap.size ≤ g) : Chg F w w2 :=
  ⟨k.os.trans h.os, k.tape.trans h.tape, k.output.trans h.output, Nat.le_trans h.size k.size, fun g hg hn => (k.block g (Nat.lt_of_lt_of_le hg h.size) (fun e => by rcases hG g e with x | x; exact hn x; omega)).trans (h.block g hg hn)⟩
theorem Chg.more {F G : Nat → Prop} {w w' : World} (h : Chg F w w') (hG : ∀ g, F g → G g ∨ w.heap.size ≤ g) : Chg G w w' := ⟨h.os, h.tape, h.output, h.size, fun g hg hn => h.block g hg (fun e => by rcases hG g e with x | x; exact hn x; omega)⟩
theorem Chg.below {F : Nat → Prop} {w w' : World} {lo : Nat} (h : Chg F w w') (hF : ∀ g, F g → lo ≤ g) (hlo : lo ≤ w.heap.size) : Below lo w w' :=
  ⟨h.os, h.tape, h.output, h.size, fun g hg => h.block g (by omega) (fun e => by have := hF g e; omega)⟩
theorem Chg.set {D : Nat → Prop} (w : World) {l o : Nat} (v : Value) (hl : D l) : Chg D w (w.setCell ⟨l, o, none⟩ v) :=
  ⟨rfl, rfl, rfl, by simp, fun g hg hn => by
    have : l ≠ g := fun e => hn (e ▸ hl)
    simp [World.setCell, Array.getElem?_modify, this]⟩
/-- A source's block. -/
def Src (w : World) (t g : Nat) (S : Int) : Prop := w.heap[g]? = some (.cells #[.int .u64 S] t (0, 0))
theorem Src.lt {w : World} {t g : Nat} {S : Int} (h : Src w t g S) : g < w.heap.size := by
  rcases Nat.lt_or_ge g w.heap.size with h' | h'
  · exact h'
  · simp [Src, Array.getElem?_eq_none h'] at h
theorem Src.cell {w : World} {t g : Nat} {S : Int} (h : Src w t g S) : w.cell? ⟨g, 0, none⟩ = some (.int .u64 S) := by
  unfold Src at h; simp [World.cell?, h]
theorem Src.free {w : World} {t g : Nat} {S : Int} (h : Src w t g S) (j : Nat) : w.frozen? ⟨g, j, none⟩ = false := by
  unfold Src at h; simp [World.frozen?, h]
theorem Src.set {w : World} {t g : Nat} {S : Int} (h : Src w t g S) (S' : Int) : Src (w.setCell ⟨g, 0, none⟩ (.int .u64 S')) t g S' := by
  unfold Src at h ⊢; simp [World.setCell, Array.getElem?_modify, h]
theorem Src.chg {D : Nat → Prop} {w w' : World} {t g : Nat} {S : Int} (h : Src w t g S) (hc : Chg D w w') (hD : ¬ D g) : Src w' t g S := (hc.block g h.lt hD).trans h
/-- A source goes on; nothing else changes. -/
def Eff (t g : Nat) (S : Int) (w w' : World) : Prop := Src w' t g S ∧ Chg (fun x => x = g) w w'
theorem Eff.trans {t g : Nat} {S S' : Int} {w w1 w2 : World} (h : Eff t g S w w1) (k : Eff t g S' w1 w2) : Eff t g S' w w2 := ⟨k.1, h.2.trans k.2 (fun _ e => .inl e)⟩
theorem Eff.later {t g : Nat} {S : Int} {w w1 w2 : World} (h : Eff t g S w w1) (k : Below w1.heap.size w1 w2) : Eff t g S w w2 := ⟨h.1.chg (Chg.of_below (D := fun _ => False) k) (fun e => e), h.2.trans (Chg.of_below (D := fun _ => False) k) (fun _ e => e.elim)⟩
theorem Eff.ahead {t g : Nat} {S : Int} {w w1 w2 : World} (k : Below w.heap.size w w1) (h : Eff t g S w1 w2) : Eff t g S w w2 := ⟨h.1, (Chg.of_below k).trans h.2 (fun _ e => .inl e)⟩
-- the numbers
def st (S : Int) : Int := IntKind.u64.wrap (S + 11400714819323198485)
def o1 (z : Int) : Int := IntKind.u64.wrap (bits BinOp.xor IntKind.u64 z (z / 1073741824) * 13787848793156543929)
def o2 (z : Int) : Int := IntKind.u64.wrap (bits BinOp.xor IntKind.u64 z (z / 134217728) * 10723151780598845931)
def o3 (z : Int) : Int := bits BinOp.xor IntKind.u64 z (z / 2147483648)
def out (S : Int) : Int := o3 (o2 (o1 (st S)))
theorem out_range (S : Int) : 0 ≤ out S ∧ out S < 18446744073709551616 := by
  have h : ∀ n : Int, 0 ≤ IntKind.u64.wrap n ∧ IntKind.u64.wrap n < 18446744073709551616 := fun n => by
    have e : IntKind.u64.wrap n = n % 18446744073709551616 := by simp [IntKind.wrap, IntKind.bits, IntKind.signed]
    rw [e]; omega
  exact h _
theorem next_p {w : World} {g : Nat} {S : Int} (h : Src w 63 g S) :
    Calls Try.prog 6 #[.pointer (some ⟨g, 0, none⟩)] w fun e w' => e = .returned (.int .u64 (out S)) ∧ Eff 63 g (st S) w w' := by
  have c0 := h.cell
  have f0 := h.free 0
  go_enter Try.func6, Try.ntmps6
  go_wp2
  go_ret
  exact ⟨rfl, h.set _, Chg.set _ _ rfl⟩
theorem next_d {w : World} {g : Nat} {S : Int} (h : Src w 27 g S) :
    Calls Try.prog 7 #[.pointer (some ⟨g, 0, none⟩)] w fun e w' => e = .returned (.int .u64 (out S)) ∧ Eff 27 g (st S) w w' := by
  have c0 := h.cell
  have f0 := h.free 0
  go_enter Try.func7, Try.ntmps7
  go_wp2
  go_ret
  exact ⟨rfl, h.set _, Chg.set _ _ rfl⟩
def bl (S n : Int) : Int := if n < 1 then 0 else out S % n
def bs (S n : Int) : Int := if n < 1 then S else st S
theorem bl_range (S n : Int) (h : 1 ≤ n) : 0 ≤ bl S n ∧ bl S n < n := by
  unfold bl; rw [if_neg (by omega)]; exact ⟨Int.emod_nonneg _ (by omega), Int.emod_lt_of_pos _ (by omega)⟩
theorem bl_cast (S n : Int) (h : 1 ≤ n) (h2 : n ≤ 9223372036854775807) : wrap64 (out S % n) = bl S n := by
  have := bl_range S n h
  unfold bl at this ⊢
  rw [if_neg (by omega)] at this ⊢
  unfold wrap64; omega
theorem below_p {w : World} {g : Nat} {S : Int} (n : Int) (h : Src w 63 g S) (hn : n ≤ 9223372036854775807) :
    Calls Try.prog 8 #[.pointer (some ⟨g, 0, none⟩), .int .i64 n] w fun e w' => e = .returned (.int .i64 (bl S n)) ∧ Eff 63 g (bs S n) w w' := by
  have H := Lib.hid h
  by_cases h1 : n < 1
  · go_enter Try.func8, Try.ntmps8
    go_wp2
    go_ret
    refine ⟨by simp [bl, h1], ?_⟩
    rw [show bs S n = S by simp [bs, h1]]
    exact ⟨h, Chg.refl _ _⟩
  · have hw : IntKind.u64.wrap n = n := by
      have e : IntKind.u64.wrap n = n % 18446744073709551616 := by simp [IntKind.wrap, IntKind.bits, IntKind.signed]
      rw [e]; omega
    have ho := out_range S
    go_enter Try.func8, Try.ntmps8
    go_wp2_with (first
      | (go_at_call 6; ((with_reducible refine (next_p H.out).mono ?_); rintro e w1 ⟨rfl, h1⟩; have H1 := Lib.hid h1; clear h1))
      | fail)
    rw [bl_cast S n h1 hn]
    go_ret
    exact ⟨rfl, by rw [show bs S n = st S by unfold bs; rw [if_neg (by omega)]]; exact H1.out⟩
theorem below_d {w : World} {g : Nat} {S : Int} (n : Int) (h : Src w 27 g S) (hn : n ≤ 9223372036854775807) :
    Calls Try.prog 9 #[.pointer (some ⟨g, 0, none⟩), .int .i64 n] w fun e w' => e = .returned (.int .i64 (bl S n)) ∧ Eff 27 g (bs S n) w w' := by
  have H := Lib.hid h
  by_cases h1 : n < 1
  · go_enter Try.func9, Try.ntmps9
    go_wp2
    go_ret
    refine ⟨by simp [bl, h1], ?_⟩
    rw [show bs S n = S by simp [bs, h1]]
    exact ⟨h, Chg.refl _ _⟩
  · have hw : IntKind.u64.wrap n = n := by
      have e : IntKind.u64.wrap n = n % 18446744073709551616 := by simp [IntKind.wrap, IntKind.bits, IntKind.signed]
      rw [e]; omega
    have ho := out_range S
    go_enter Try.func9, Try.ntmps9
    go_wp2_with (first
      | (go_at_call 7; ((with_reducible refine (next_d H.out).mono ?_); rintro e w1 ⟨rfl, h1⟩; have H1 := Lib.hid h1; clear h1))
      | fail)
    rw [bl_cast S n h1 hn]
    go_ret
    exact ⟨rfl, by rw [show bs S n = st S by unfold bs; rw [if_neg (by omega)]]; exact H1.out⟩
def cl (n m : Int) : Int := if n < 1 then 1 else if m < n then m else n
theorem cl_range (n m : Int) (h : 1 ≤ m) : 1 ≤ cl n m ∧ cl n m ≤ m := by
  unfold cl; split
  · omega
  · split <;> omega
theorem cl_1 {n m : Int} (h : n < 1) : cl n m = 1 := by unfold cl; rw [if_pos h]
theorem cl_2 {n m : Int} (h : 1 ≤ n) (h2 : m < n) : cl n m = m := by unfold cl; rw [if_neg (by omega), if_pos h2]
theorem cl_3 {n m : Int} (h : 1 ≤ n) (h2 : n ≤ m) : cl n m = n := by unfold cl; rw [if_neg (by omega), if_neg (by omega)]
theorem clip_d (n m : Int) (w : World) (h : 1 ≤ m) :
    Calls Try.prog 27 #[.int .i64 n, .int .i64 1, .int .i64 m] w fun e w' => e = .returned (.int .i64 (cl n m)) ∧ w = w' := by
  by_cases h1 : n < 1
  · rw [cl_1 h1]
    go_enter Try.func27, Try.ntmps27
    go_wp2
    go_ret
    exact ⟨rfl, rfl⟩
  · by_cases h2 : m < n
    · rw [cl_2 (by omega) h2]
      go_enter Try.func27, Try.ntmps27
      go_wp2
      go_ret
      exact ⟨rfl, rfl⟩
    · rw [cl_3 (by omega) (by omega)]
      go_enter Try.func27, Try.ntmps27
      go_wp2
      go_ret
      exact ⟨rfl, rfl⟩
theorem clip_p (n m : Int) (w : World) (h : 1 ≤ m) :
    Calls Try.prog 24 #[.int .i64 n, .int .i64 1, .int .i64 m] w fun e w' => e = .returned (.int .i64 (cl n m)) ∧ w = w' := by
  by_cases h1 : n < 1
  · rw [cl_1 h1]
    have h2 : ¬ m < n := by omega
    go_enter Try.func24, Try.ntmps24
    go_wp2
    all_goals
      go_ret
      refine ⟨?_, rfl⟩
      refine congrArg Ending.returned ?_
      show Value.int IntKind.i64 _ = Value.int IntKind.i64 _
      refine congrArg _ ?_
      omega
  · by_cases h2 : m < n
    · rw [cl_2 (by omega) h2]
      go_enter Try.func24, Try.ntmps24
      go_wp2
      all_goals
        go_ret
        refine ⟨?_, rfl⟩
        refine congrArg Ending.returned ?_
        show Value.int IntKind.i64 _ = Value.int IntKind.i64 _
        refine congrArg _ ?_
        omega
    · rw [cl_3 (by omega) (by omega)]
      go_enter Try.func24, Try.ntmps24
      go_wp2
      all_goals
        go_ret
        refine ⟨?_, rfl⟩
        refine congrArg Ending.returned ?_
        show Value.int IntKind.i64 _ = Value.int IntKind.i64 _
        refine congrArg _ ?_
        omega
end Go.Proofs.Ytnchpfmpjpnciaa
