/- Pivots: all parts: the iterator's rounds. -/
import Derived.Test.YtngldfheneegcaaP6
import Derived.RangeFuncNested
import Derived.RangeFuncBound
import Derived.RangeFuncCalls
import Derived.RangeFuncLeaves
import Derived.Shelf.Abstract
import Derived.Shelf.RegionOpen
import Derived.OwnWalkIn
import Derived.TacticsInMore
import Derived.LoopNIn
import Derived.LoopIn
namespace Go.Proofs.Ytngldfheneegcaa
set_option linter.unusedSimpArgs false
open Go.RowKit Go.Shelf
set_option linter.unusedVariables false
attribute [local go_sem] Oper.semAt_some

/-- The blocks from lo to hi are kept. -/
def KpR (lo hi : Nat) (W W' : World) : Prop := W.heap.size ≤ W'.heap.size ∧ ∀ g, lo ≤ g → g < hi → W'.heap[g]? = W.heap[g]?
theorem KpR.refl (lo hi : Nat) (W : World) : KpR lo hi W W := ⟨Nat.le_refl _, fun _ _ _ => rfl⟩
theorem KpR.trans {lo hi : Nat} {A B C : World} (h : KpR lo hi A B) (k : KpR lo hi B C) : KpR lo hi A C := ⟨Nat.le_trans h.1 k.1, fun g a b => (k.2 g a b).trans (h.2 g a b)⟩
theorem KpR.of_below {lo hi : Nat} {W W' : World} (h : Below W.heap.size W W') (hh : hi ≤ W.heap.size) : KpR lo hi W W' := ⟨h.size, fun g a b => h.block g (by omega)⟩
theorem kp_cell {lo hi : Nat} {W W' : World} (h : KpR lo hi W W') {g o : Nat} {v : Value} (a : lo ≤ g) (b : g < hi) (hc : W.cell? ⟨g, o, none⟩ = some v) : W'.cell? ⟨g, o, none⟩ = some v := (World.cell?_of_block (h.2 g a b)).trans hc
theorem It.kp {w w' : World} {lo hi B1 B2 B3 : Nat} {p : List ByteArray} {f t : ByteArray} (h : It w lo hi B1 B2 B3 p f t) (k : KpR lo hi w w') : It w' lo hi B1 B2 B3 p f t := by
  obtain ⟨A, c, h1, h2, h3⟩ := h.c2
  refine ⟨h.b1, h.b2, h.b3, Nat.le_trans h.hs k.1, kp_cell k h.b1.1 h.b1.2 h.c1, ⟨A, c, kp_cell k h.b2.1 h.b2.2 h1, ?_, h3⟩, kp_cell k h.b3.1 h.b3.2 h.c3.1, kp_cell k h.b3.1 h.b3.2 h.c3.2⟩
  rcases h3 with h3 | ⟨g, rfl, g1, g2⟩
  · subst h3; exact .inl rfl
  · rcases h2 with h2 | ⟨b, off, e, hlt, hc⟩
    · exact .inl h2
    · cases e
      exact .inr ⟨g, 0, rfl, Nat.lt_of_lt_of_le hlt k.1, fun j u hj => kp_cell k g1 g2 (hc j u hj)⟩
theorem It.later {w w' : World} {lo hi B1 B2 B3 : Nat} {p : List ByteArray} {f t : ByteArray} (h : It w lo hi B1 B2 B3 p f t) (k : Below w.heap.size w w') : It w' lo hi B1 B2 B3 p f t := h.kp (.of_below k h.hs)
abbrev Part := Nat × ByteArray × ByteArray
def prtOf (p : List ByteArray) (f t : ByteArray) (i : Nat) : Part := (i, pF p f i, pT p t i)
def upto (p : List ByteArray) (f t : ByteArray) (k : Nat) : List Part := (List.range k).map (prtOf p f t)
theorem upto_succ (p : List ByteArray) (f t : ByteArray) (k : Nat) : upto p f t (k + 1) = upto p f t k ++ [prtOf p f t k] := by simp [upto, List.range_succ]
theorem upto_length (p : List ByteArray) (f t : ByteArray) (k : Nat) : (upto p f t k).length = k := by simp [upto]
abbrev encs (x : Part) : Array Value := #[.int .i64 (x.1 : Int), .agg #[.string x.2.1, .string x.2.2]]
theorem many_le (p : List ByteArray) (f t : ByteArray) : many p f t ≤ p.length + 1 := by unfold many; split <;> omega

set_option maxRecDepth 100000 in
set_option maxHeartbeats 2000000 in
theorem it_rounds (l lo hi B1 B2 B3 : Nat) (p : List ByteArray) (f t : ByteArray) (hn : p.length ≤ 1000) (J Jx : List Part → World → Prop) (W : World) (hI : It W lo hi B1 B2 B3 p f t)
    (hJ : AbidesFrom W.heap.size J)
    (hY : ∀ pre x W1, J pre W1 → pre.length < many p f t → YieldAt Fence.wide 2 Try.prog l (encs x) W1 fun e W' =>
      (e = .returned (.bool true) ∧ J (pre ++ [x]) W' ∧ KpR lo hi W1 W') ∨ (e = .returned (.bool false) ∧ Jx (pre ++ [x]) W'))
    (h0 : J [] W) :
    CallsIn Fence.wide 3 Try.prog 34 #[.func (.yield l) #[] #[], .pointer (some ⟨B1, 0, none⟩), .pointer (some ⟨B2, 0, none⟩), .pointer (some ⟨B3, 0, none⟩)] W fun e W' => (∃ v, e = .returned v) ∧
      ((∃ ys, ys = upto p f t (many p f t) ∧ J ys W') ∨ (∃ pre, (∃ k, k ≤ many p f t ∧ pre = upto p f t k) ∧ Jx pre W')) := by
  have c1 := hI.c1
  have HI := Lib.hid hI
  have hm := many_le p f t
  clear hI
  refine callsIn_of_wp Try.func34 rfl trivial ?_ rfl
  simp only [Try.ntmps34, List.size_toArray, List.length_cons, List.length_nil, Nat.reduceAdd, Nat.reduceSub, Array.replicate_succ, Array.replicate_zero, List.push_toArray, List.append_toArray, List.nil_append, List.cons_append]
  gi_wp2
  gi_loopw [5, 7] (fun _ iv wr => ∃ k : Nat, k ≤ many p f t ∧ iv = .int .i64 k ∧ J (upto p f t k) wr ∧ KpR lo hi W wr)
    (fun _ i _ => many p f t - (intOf i).toNat)
  case atStart => exact ⟨0, Nat.zero_le _, rfl, h0, KpR.refl _ _ _⟩
  case round =>
    obtain ⟨k, hk, rfl, hJs, hkp⟩ := hrel
    by_cases hlt : k < many p f t
    · have hk1 : (k : Int) < (many p f t : Int) := by omega
      have hk0 : (0 : Int) ≤ (k : Int) := by omega
      have hk9 : (k : Int) ≤ 1000 := by omega
      have HIr := Lib.hid (HI.out.kp hkp)
      obtain ⟨A, c, g1, g2, _⟩ := HIr.out.c2
      have g3 := HIr.out.c3.1
      have g4 := HIr.out.c3.2
      have PC := Lib.hid (piece_any A p p.length c k f t wr rfl hn (by omega) g2)
      have HJS := Lib.hid hJs
      have HKP := Lib.hid hkp
      clear g2 hJs hkp
      gi_wp2_with (first
        | (refine ⟨trivial, ?_⟩; gi_at_call 24; refine (callsIn_wide.2 PC.out).mono ?_; rintro e w3 ⟨rfl, b3⟩; have BX := Lib.hid b3; obtain ⟨fn, tmps, assign, body, hy, hR⟩ := hY (upto p f t k) (prtOf p f t k) w3 (hJ _ _ _ none HJS.out (bel_grown b3 none) (fun r e => by cases e)) (by rw [upto_length]; exact hlt); simp only [encs, prtOf] at hy; clear b3)
        | (gi_at_call 24; refine (callsIn_wide.2 PC.out).mono ?_; rintro e w3 ⟨rfl, b3⟩; have BX := Lib.hid b3; obtain ⟨fn, tmps, assign, body, hy, hR⟩ := hY (upto p f t k) (prtOf p f t k) w3 (hJ _ _ _ none HJS.out (bel_grown b3 none) (fun r e => by cases e)) (by rw [upto_length]; exact hlt); simp only [encs, prtOf] at hy; clear b3)
        | fail)
      refine hR.mono ?_
      rintro e W3 (⟨rfl, hJ3, hk3⟩ | ⟨rfl, hJx3⟩)
      · gi_wp2
        go_roundw
        case rel => exact ⟨k + 1, by omega, by simp, by rw [upto_succ]; exact hJ3, HKP.out.trans ((KpR.of_below BX.out HIr.out.hs).trans hk3)⟩
        case measure => simp [intOf]; omega
      · gi_wp2
        refine bodyPost_ret (results_none rfl _ _ _) rfl ?_
        exact ⟨⟨_, rfl⟩, .inr ⟨_, ⟨k + 1, by omega, (upto_succ _ _ _ _).symm⟩, hJx3⟩⟩
    · have hk1 : ¬ (k : Int) < (many p f t : Int) := by omega
      have e : k = many p f t := by omega
      subst e
      gi_wp2
      go_end0
      exact ⟨⟨_, rfl⟩, .inl hJs⟩
/-- **The iterator's contract.** -/
theorem it_stops {lo hi B1 B2 B3 : Nat} {p : List ByteArray} {f t : ByteArray} (hn : p.length ≤ 1000) (w : World) (hI : It w lo hi B1 B2 B3 p f t) :
    SeqStopsK Fence.wide 3 Try.prog 34 #[.pointer (some ⟨B1, 0, none⟩), .pointer (some ⟨B2, 0, none⟩), .pointer (some ⟨B3, 0, none⟩)] encs (KpR lo hi) (fun ys => ys = upto p f t (many p f t)) (fun pre => ∃ k, k ≤ many p f t ∧ pre = upto p f t k) (many p f t) w :=
  fun l J Jx W hW hJ _ hY h0 => it_rounds l lo hi B1 B2 B3 p f t hn J Jx W (hI.later hW) hJ hY h0
end Go.Proofs.Ytngldfheneegcaa
