/- Texts of the proof, one behind the other. -/
import Derived.Test.YtilnpeekajnlhaaGreatTh14
import Derived.Test.YtilnpeekajnlhaaGreatTh26
import Derived.ArgAppend
import Derived.Shelf.Spec.SlicesInsert
import Derived.Shelf.Spec.SlicesInsertGrow
import Derived.Shelf.Slices.Delete
import Derived.Shelf.Slices.Cells
import Derived.Test.YtilnpeekajnlhaaGreatTh27
import Derived.Test.YtilnpeekajnlhaaGreatTh20
import Derived.Test.YtilnpeekajnlhaaGreatTh19
import Derived.Lib.AppendZeros
import Derived.Test.YtilnpeekajnlhaaGreatTh29
set_option linter.unusedVariables false
set_option linter.unusedSimpArgs false
namespace Go.Proofs.YtilnpeekajnlhaaGreat.Pv
open Go.RowKit

end Go.Proofs.YtilnpeekajnlhaaGreat.Pv
namespace Go.Proofs.YtilnpeekajnlhaaGreat.Pv
open Go.RowKit Go.Maps

/-- A row of texts in memory of its own, or an empty one that has no room. -/
def Row (w : World) (base : Nat) (A : Option Addr) (l : List ByteArray) (c : Nat) : Prop :=
  (l = [] ∧ c = 0) ∨ (0 < c ∧ w.ownsRow base 9 1 (.slice A l.length c) l.length (l.map Value.string))
/-- The block that it may write. -/
def fpr (A : Option Addr) (c : Nat) : Option Nat := if c = 0 then none else A.map (·.block)
theorem Row.rd {w : World} {base : Nat} {A : Option Addr} {l : List ByteArray} {c : Nat} (h : Row w base A l c) : RdS w A l := by
  rcases h with ⟨h, _⟩ | ⟨_, h⟩
  · subst h; exact .inl rfl
  · exact Rd.of_own h (by decide)
theorem Row.cap {w : World} {base : Nat} {A : Option Addr} {l : List ByteArray} {c : Nat} (h : Row w base A l c) : l.length ≤ c ∧ c ≤ maxLen := by
  rcases h with ⟨h, h2⟩ | ⟨h0, h⟩
  · subst h h2; exact ⟨Nat.le_refl _, Nat.zero_le _⟩
  · rcases h.2 with ⟨hv, hn⟩ | ⟨g, cap, cur, hv, _, _, h1, h2, _⟩
    · injection hv with e1 e2 e3; omega
    · cases hv; exact ⟨h1, h2⟩
theorem Row.kept {w w' : World} {base : Nat} {A : Option Addr} {l : List ByteArray} {c : Nat} {row : Option Nat} (h : Row w base A l c) (hg : w.grownBy w' row) (hne : fpr A c = none ∨ fpr A c ≠ row) : Row w' base A l c := by
  rcases h with h | ⟨h0, h⟩
  · exact .inl h
  · refine .inr ⟨h0, h.kept hg ?_⟩
    have hc : ¬ c = 0 := by omega
    cases A with
    | none => left; rfl
    | some a => right; rcases hne with hne | hne <;> simp [fpr, hc] at hne; simpa [Value.ownBlock] using hne
theorem Row.fp_lt {w : World} {base : Nat} {A : Option Addr} {l : List ByteArray} {c g : Nat} (h : Row w base A l c) (hf : fpr A c = some g) : base ≤ g ∧ g < w.heap.size := by
  rcases h with ⟨_, h⟩ | ⟨h0, h⟩
  · subst h; simp [fpr] at hf
  · have hc : ¬ c = 0 := by omega
    cases A with
    | none => simp [fpr, hc] at hf
    | some a => simp [fpr, hc] at hf; exact h.lt g (by rw [← hf]; rfl)
theorem Row.base {w : World} {base b2 : Nat} {A : Option Addr} {l : List ByteArray} {c : Nat} (h : Row w base A l c) (hb : b2 ≤ base) : Row w b2 A l c := by
  rcases h with h | ⟨h0, h⟩
  · exact .inl h
  · refine .inr ⟨h0, ?_⟩
    rcases h with ⟨h1, h2 | ⟨g, cap, cur, e1, e2, e3⟩⟩
    · exact ⟨h1, .inl h2⟩
    · exact ⟨h1, .inr ⟨g, cap, cur, e1, Nat.le_trans hb e2, e3⟩⟩

where
  Rows_old' (w : World) (o : Obj) (i : Nat) (h : i < w.heap.size) : (w.alloc o).heap[i]? = w.heap[i]? := by
    show (w.heap.push o)[i]? = _
    rw [Array.getElem?_push, if_neg (by omega)]
end Go.Proofs.YtilnpeekajnlhaaGreat.Pv
namespace Go.Proofs.YtilnpeekajnlhaaGreat.Pv
open Go.RowKit

end Go.Proofs.YtilnpeekajnlhaaGreat.Pv
namespace Go.Proofs.YtilnpeekajnlhaaGreat.Pv
open Go.RowKit
end Go.Proofs.YtilnpeekajnlhaaGreat.Pv
namespace Go.Proofs.YtilnpeekajnlhaaGreat
open Go.RowKit Go.Maps
theorem small_yes {n k m b : Nat} (h : smallB n k m b = true) : k ≤ 20 ∧ n ≤ 20 ∧ m ≤ 30 ∧ b ≤ 5 := by
  unfold smallB at h
  simp only [Bool.and_eq_true, decide_eq_true_eq] at h
  omega
/-- A row of so many cells may be written; it lies between two marks. -/
def WrO (W : World) (N NL : Nat) (A : Option Addr) (m : Nat) : Prop := m = 0 ∨ ∃ b off cs t, A = some ⟨b, off, none⟩ ∧ N ≤ b ∧ b < NL ∧ W.heap[b]? = some (.cells cs t (0, 0)) ∧ off + m ≤ cs.size
theorem WrO.later {W W2 : World} {N NL m : Nat} {A : Option Addr} (h : WrO W N NL A m) (k : Below W.heap.size W W2) : WrO W2 N NL A m :=
  h.imp id (fun ⟨b, off, cs, t, e, h1, h2, h3, h4⟩ => ⟨b, off, cs, t, e, h1, h2, keep_bel k h3, h4⟩)
theorem WrO.wide {W : World} {N N2 NL NL2 m : Nat} {A : Option Addr} (h : WrO W N NL A m) (h1 : N2 ≤ N) (h2 : NL ≤ NL2) : WrO W N2 NL2 A m :=
  h.imp id (fun ⟨b, off, cs, t, e, k1, k2, k3⟩ => ⟨b, off, cs, t, e, Nat.le_trans h1 k1, Nat.lt_of_lt_of_le k2 h2, k3⟩)
theorem WrO.set {W : World} {N NL m : Nat} {A : Option Addr} (h : WrO W N NL A m) (g o : Nat) (v : Value) : WrO (W.setCell ⟨g, o, none⟩ v) N NL A m := by
  rcases h with h | ⟨b, off, cs, t, rfl, h1, h2, h3, h4⟩
  · exact .inl h
  · by_cases e : g = b
    · subst e
      refine .inr ⟨g, off, cs.setIfInBounds o v, t, rfl, h1, h2, ?_, by simpa using h4⟩
      have hlt : g < W.heap.size := (Array.getElem?_eq_some_iff.1 h3).1
      have q : W.heap[g] = .cells cs t (0, 0) := by have := h3; rw [Array.getElem?_eq_getElem hlt] at this; exact Option.some.inj this
      rw [Array.getElem?_eq_getElem (by simpa [World.setCell] using hlt)]
      simp [World.setCell, Array.getElem_modify, q]
    · refine .inr ⟨b, off, cs, t, rfl, h1, h2, ?_, h4⟩
      simp [World.setCell, Array.getElem?_modify, h3, e]
theorem WrO.at {W : World} {N NL m : Nat} {A : Option Addr} (h : WrO W N NL A m) {j : Nat} (hj : j < m) : ∃ b off, A = some ⟨b, off, none⟩ ∧ N ≤ b ∧ b < NL ∧ b < W.heap.size ∧ (∀ i, i < m → (∃ x, W.cell? ⟨b, off + i, none⟩ = some x) ∧ W.frozen? ⟨b, off + i, none⟩ = false) := by
  rcases h with h | ⟨b, off, cs, t, rfl, h1, h2, h3, h4⟩
  · omega
  · refine ⟨b, off, rfl, h1, h2, (Array.getElem?_eq_some_iff.1 h3).1, fun i hi => ⟨⟨cs[off + i]'(by omega), ?_⟩, ?_⟩⟩
    · simp [World.cell?, h3, Array.getElem?_eq_getElem (show off + i < cs.size by omega)]
    · simp [World.frozen?, h3]
theorem WrO.row {α : Type} {E : RE α} {W : World} {base : Nat} {A : Option Addr} {l : List α} {c n : Nat} (h : E.Row W base A l c) (hn : l.length = n) : WrO W base W.heap.size A (n * E.k) := by
  subst hn
  rcases h with ⟨e, _⟩ | ⟨h0, h1, h2⟩
  · subst e; exact .inl (by simp)
  · rcases h2 with ⟨hv, hn⟩ | ⟨g, cap, cur, hv, hb, hz, h3, h4, h5, h6⟩
    · injection hv with e1 e2 e3; omega
    · cases hv
      refine .inr ⟨g, 0, cur, E.et, rfl, hb, (Array.getElem?_eq_some_iff.1 hz).1, hz, ?_⟩
      have := congrArg List.length h6
      rw [List.length_take, E.all_len] at this
      simp at this
      omega
/-- Three rows that may be written. -/
structure WR (W : World) (N NL : Nat) (P : Option Addr) (n : Nat) (J : Option Addr) (k : Nat) (M : Option Addr) (m : Nat) : Prop where
  w1 : WrO W N NL P n
  w2 : WrO W N NL J k
  w3 : WrO W N NL M (m * 6)
theorem WR.later {W W2 : World} {N NL n k m : Nat} {P J M : Option Addr} (h : WR W N NL P n J k M m) (b : Below W.heap.size W W2) : WR W2 N NL P n J k M m := ⟨h.w1.later b, h.w2.later b, h.w3.later b⟩
theorem WR.wide {W : World} {N N2 NL NL2 n k m : Nat} {P J M : Option Addr} (h : WR W N NL P n J k M m) (h1 : N2 ≤ N) (h2 : NL ≤ NL2) : WR W N2 NL2 P n J k M m := ⟨h.w1.wide h1 h2, h.w2.wide h1 h2, h.w3.wide h1 h2⟩
theorem R3.wr {W : World} {base : Nat} {P J M : Option Addr} {p j mc n k m : Nat} {pa : List ByteArray} {ia : List Int} {ma : List MG} (h : R3 W base P J M p j mc pa ia ma) (q1 : pa.length = n) (q2 : ia.length = k) (q3 : ma.length = m) : WR W base W.heap.size P n J k M m :=
  ⟨by have := WrO.row h.r1 q1; rwa [show n * ES.k = n from Nat.mul_one n] at this, by have := WrO.row h.r2 q2; rwa [show k * EI.k = k from Nat.mul_one k] at this, WrO.row h.r3 q3⟩
end Go.Proofs.YtilnpeekajnlhaaGreat
namespace Go.Proofs.YtilnpeekajnlhaaGreat
open Go.Shelf
end Go.Proofs.YtilnpeekajnlhaaGreat
namespace Go.Proofs.YtilnpeekajnlhaaGreat
open Go.RowKit Go.Maps Go.Shelf
end Go.Proofs.YtilnpeekajnlhaaGreat
namespace Go.Proofs.YtilnpeekajnlhaaGreat.Pv
open Go.RowKit Go.Maps
end Go.Proofs.YtilnpeekajnlhaaGreat.Pv
namespace Go.Proofs.YtilnpeekajnlhaaGreat
open Go.RowKit Go.Maps
theorem cells3 {W : World} {g : Nat} {a b c : Value} {t : TypeId} (z : W.heap[g]? = some (.cells #[a, b, c] t (0, 0))) : W.cell? ⟨g, 0, none⟩ = some a ∧ W.cell? ⟨g, 1, none⟩ = some b ∧ W.cell? ⟨g, 2, none⟩ = some c := by
  refine ⟨?_, ?_, ?_⟩ <;> simp [World.cell?, z]
theorem row_freshS (w : World) (n : Nat) (h0 : 0 < n) (hn : n ≤ 1000) :
    ES.Row (w.drew.alloc (.cells (Builtin.zeroCells ES.z.cells n ++ Builtin.zeroCells ES.z.cells (grownCap w n 0 9 - n)) 9)) w.heap.size (some ⟨w.heap.size, 0, none⟩) [] (grownCap w n 0 9) := by
  have h1 := grownCap_ge w n 0 9
  have h2 := grownCap_le_maxLen w n 0 9 (by unfold maxLen; omega)
  refine .inr ⟨by omega, by simp [RE.all], .inr ⟨w.heap.size, grownCap w n 0 9, Builtin.zeroCells ES.z.cells n ++ Builtin.zeroCells ES.z.cells (grownCap w n 0 9 - n), rfl, Nat.le_refl _, ?_, Nat.zero_le _, h2, ?_, by simp [RE.all]⟩⟩
  · exact heap_alloc_new w.drew _
  · rw [Array.size_append, size_zeroCells, size_zeroCells, ← Nat.add_mul]
    have : n + (grownCap w n 0 9 - n) = grownCap w n 0 9 := by omega
    rw [this]; rfl
set_option maxRecDepth 10000 in
set_option maxHeartbeats 4000000 in
theorem grow_nilS (n : Nat) (hn : n ≤ 1000) (w : World) :
    Calls Tryz.prog 68 #[.slice none 0 0, .int .i64 n] w fun r w' => (∃ A c, r = .returned (.slice A 0 c) ∧ ES.Row w' w.heap.size A [] c) ∧ Below w.heap.size w w' := by
  have h1 : ¬ ((n : Int) < 0) := by omega
  go_enter Tryz.func68, Tryz.ntmps68
  by_cases hz : n = 0
  · subst hz
    go_wp2
    go_ret
    exact ⟨⟨none, 0, rfl, .inl ⟨rfl, rfl⟩⟩, Below.refl _ _⟩
  · have h2 : (0 : Int) < (n : Int) := by omega
    have h3 : 0 < n := by omega
    have hw : IntKind.i64.wrap (n : Int) = (n : Int) := IntWalk.i64_in _ (by omega)
    obtain ⟨i, hi, hzr, hsz, hby⟩ := ES.parts
    have HRUN := Lib.hid (Lib.run_append_nil_zeros (P := Tryz.prog) w 23 3 23 9 i ES.z .i64 .i64 Tryz.underlying23 Tryz.underlying3 hi hzr n h3 (by rw [hsz]; show 0 < 1; omega) (by omega) (by rw [hby]; show n * 16 ≤ _; omega))
    have HROW := Lib.hid (row_freshS w n h3 hn)
    have HBEL := Lib.hid (show Below w.heap.size w (w.drew.alloc (.cells (Builtin.zeroCells ES.z.cells n ++ Builtin.zeroCells ES.z.cells (grownCap w n 0 9 - n)) 9)) by go_grown)
    have HGC := Lib.hid (grownCap_ge w n 0 9)
    obtain ⟨W1, hW1⟩ : ∃ W1, W1 = w.drew.alloc (.cells (Builtin.zeroCells ES.z.cells n ++ Builtin.zeroCells ES.z.cells (grownCap w n 0 9 - n)) 9) := ⟨_, rfl⟩
    rw [← hW1] at HRUN HROW HBEL
    obtain ⟨c, hc⟩ : ∃ c, c = grownCap w n 0 9 := ⟨_, rfl⟩
    rw [← hc] at HRUN HROW HGC
    clear hW1 hc hi hzr hsz hby i
    have hnc := HGC.out
    go_wp2_with (first
      | (at_builtin; refine Lib.wpList_append_run _ rfl (.tmp 20) (.tmp 21) 23 3 rfl _ _ rfl rfl _ _ HRUN.out ?_)
      | fail)
    go_ret
    exact ⟨⟨_, _, rfl, HROW.out⟩, HBEL.out⟩
set_option maxRecDepth 10000 in
set_option maxHeartbeats 4000000 in
theorem concatS (g : Nat) (A B C : Option Addr) (n c m d q e : Nat) (xs ys zs : List ByteArray) (w : World) (hg : w.heap[g]? = some (.cells #[.slice A n c, .slice B m d, .slice C q e] 23 (0, 0))) (hxs : xs.length = n) (hys : ys.length = m) (hzs : zs.length = q) (hn : n ≤ 100) (hm : m ≤ 100) (hq : q ≤ 100) (hA : ES.Rd w A xs) (hB : ES.Rd w B ys) (hC : ES.Rd w C zs) :
    Calls Tryz.prog 34 #[.slice (some ⟨g, 0, none⟩) 3 3] w fun r w' => (∃ A' c', r = .returned (.slice A' (n + m + q) c') ∧ ES.Row w' w.heap.size A' (xs ++ ys ++ zs) c') ∧ Below w.heap.size w w' := by
  have HG := Lib.hid hg
  have Hxs := Lib.hid hxs
  have HA := Lib.hid hA
  have Hys := Lib.hid hys
  have HB := Lib.hid hB
  have Hzs := Lib.hid hzs
  have HC := Lib.hid hC
  obtain ⟨c0, c1, c2⟩ := cells3 hg
  clear hg hxs hA hys hB hzs hC
  have n1 : ¬ ((n : Int) < 0) := by omega
  have n2 : ¬ ((n : Int) + (m : Int) < 0) := by omega
  have n3 : ¬ ((n : Int) + (m : Int) + (q : Int) < 0) := by omega
  have AG := Lib.hid (grow_nilS (n + m + q) (by omega) w)
  have hnm : ((n + m + q : Nat) : Int) = (n : Int) + (m : Int) + (q : Int) := by omega
  rw [hnm] at AG
  clear hnm
  go_enter Tryz.func34, Tryz.ntmps34
  go_wp2
  go_loopw [3, 11] (fun sv iv wr => ((iv = .int .i64 0 ∧ sv = .int .i64 0 ∧ w = wr) ∨ (iv = .int .i64 1 ∧ sv = .int .i64 n ∧ w = wr) ∨ (iv = .int .i64 2 ∧ sv = .int .i64 ((n : Int) + m) ∧ w = wr) ∨ (iv = .int .i64 3 ∧ sv = .int .i64 ((n : Int) + m + q) ∧ w = wr))) (fun _ i _ => 3 - (intOf i).toNat)
  case atStart => exact .inl ⟨rfl, rfl, rfl⟩
  case round =>
    rcases hrel with ⟨rfl, rfl, rfl⟩ | ⟨rfl, rfl, rfl⟩ | ⟨rfl, rfl, rfl⟩ | ⟨rfl, rfl, rfl⟩
    · go_wp2
      exact ⟨.inr (.inl (by simp)), by simp [intOf]⟩
    · go_wp2
      exact ⟨.inr (.inr (.inl (by simp))), by simp [intOf]⟩
    · go_wp2
      exact ⟨.inr (.inr (.inr (by simp))), by simp [intOf]⟩
    · go_wp2_with (first
        | (go_at_call 68; ((with_reducible refine AG.out.mono ?_); rintro e w1 ⟨⟨A0, k0, rfl, r0⟩, b1⟩; have R0 := Lib.hid r0; have B1 := Lib.hid b1; clear r0))
        | fail)
      go_loopw [6, 27] (fun sv iv wr => (iv = .int .i64 0 ∧ sv = .slice A0 0 k0 ∧ Hid (ES.Row wr w.heap.size A0 [] k0) ∧ Below w.heap.size w wr) ∨ (∃ A1 k1, iv = .int .i64 1 ∧ sv = .slice A1 (n) k1 ∧ Hid (ES.Row wr w.heap.size A1 xs k1) ∧ Below w.heap.size w wr) ∨ (∃ A1 k1, iv = .int .i64 2 ∧ sv = .slice A1 (n + m) k1 ∧ Hid (ES.Row wr w.heap.size A1 (xs ++ ys) k1) ∧ Below w.heap.size w wr) ∨ (∃ A1 k1, iv = .int .i64 3 ∧ sv = .slice A1 (n + m + q) k1 ∧ Hid (ES.Row wr w.heap.size A1 (xs ++ ys ++ zs) k1) ∧ Below w.heap.size w wr)) (fun _ i _ => 3 - (intOf i).toNat)
      case atStart => exact .inl ⟨rfl, rfl, R0, B1.out⟩
      case round =>
        rcases hrel with ⟨rfl, rfl, RR, hb⟩ | ⟨A1, k1, rfl, rfl, RR, hb⟩ | ⟨A1, k1, rfl, rfl, RR, hb⟩ | ⟨A1, k1, rfl, rfl, RR, hb⟩
        · have HBB := Lib.hid hb
          obtain ⟨e0, e1, e2⟩ := cells3 (keep_bel hb HG.out)
          clear hb
          go_wp2_with (first
            | (at_builtin; refine RE.wpList_put ES _ rfl (.tmp 31) (.tmp 32) rfl (base := w.heap.size) A0 0 k0 [] A n c xs rfl rfl RR.out rfl (by omega) HBB.out.size Hxs.out (by omega) (HA.out.later HBB.out) ?_; intro A2 k2 w2 r1 r2 r3; have R1 := Lib.hid r1; have BX := Lib.hid (HBB.out.trans (RE.Row.below r2 RR.out (Nat.le_refl _) HBB.out.size)); clear r1 r2 r3)
            | fail)
          exact ⟨.inr (.inl (⟨A2, k2, by simp, by simp, Lib.hid (by simpa using R1.out), BX.out⟩)), by simp [intOf]⟩
        · have HBB := Lib.hid hb
          obtain ⟨e0, e1, e2⟩ := cells3 (keep_bel hb HG.out)
          clear hb
          go_wp2_with (first
            | (at_builtin; refine RE.wpList_put ES _ rfl (.tmp 31) (.tmp 32) rfl (base := w.heap.size) A1 (n) k1 xs B m d ys rfl rfl RR.out Hxs.out (by omega) HBB.out.size Hys.out (by omega) (HB.out.later HBB.out) ?_; intro A2 k2 w2 r1 r2 r3; have R1 := Lib.hid r1; have BX := Lib.hid (HBB.out.trans (RE.Row.below r2 RR.out (Nat.le_refl _) HBB.out.size)); clear r1 r2 r3)
            | fail)
          exact ⟨.inr (.inr (.inl (⟨A2, k2, by simp, by simp, Lib.hid (by simpa using R1.out), BX.out⟩))), by simp [intOf]⟩
        · have HBB := Lib.hid hb
          obtain ⟨e0, e1, e2⟩ := cells3 (keep_bel hb HG.out)
          clear hb
          go_wp2_with (first
            | (at_builtin; refine RE.wpList_put ES _ rfl (.tmp 31) (.tmp 32) rfl (base := w.heap.size) A1 (n + m) k1 (xs ++ ys) C q e zs rfl rfl RR.out (by rw [List.length_append, Hxs.out, Hys.out]) (by omega) HBB.out.size Hzs.out (by omega) (HC.out.later HBB.out) ?_; intro A2 k2 w2 r1 r2 r3; have R1 := Lib.hid r1; have BX := Lib.hid (HBB.out.trans (RE.Row.below r2 RR.out (Nat.le_refl _) HBB.out.size)); clear r1 r2 r3)
            | fail)
          exact ⟨.inr (.inr (.inr (⟨A2, k2, by simp, by simp, Lib.hid (by simpa using R1.out), BX.out⟩))), by simp [intOf]⟩
        · have HBB := Lib.hid hb
          clear hb
          go_wp2
          go_ret
          exact ⟨⟨_, _, rfl, RR.out⟩, HBB.out⟩
theorem row_freshI (w : World) (n : Nat) (h0 : 0 < n) (hn : n ≤ 1000) :
    EI.Row (w.drew.alloc (.cells (Builtin.zeroCells EI.z.cells n ++ Builtin.zeroCells EI.z.cells (grownCap w n 0 3 - n)) 3)) w.heap.size (some ⟨w.heap.size, 0, none⟩) [] (grownCap w n 0 3) := by
  have h1 := grownCap_ge w n 0 3
  have h2 := grownCap_le_maxLen w n 0 3 (by unfold maxLen; omega)
  refine .inr ⟨by omega, by simp [RE.all], .inr ⟨w.heap.size, grownCap w n 0 3, Builtin.zeroCells EI.z.cells n ++ Builtin.zeroCells EI.z.cells (grownCap w n 0 3 - n), rfl, Nat.le_refl _, ?_, Nat.zero_le _, h2, ?_, by simp [RE.all]⟩⟩
  · exact heap_alloc_new w.drew _
  · rw [Array.size_append, size_zeroCells, size_zeroCells, ← Nat.add_mul]
    have : n + (grownCap w n 0 3 - n) = grownCap w n 0 3 := by omega
    rw [this]; rfl
set_option maxRecDepth 10000 in
set_option maxHeartbeats 4000000 in
theorem grow_nilI (n : Nat) (hn : n ≤ 1000) (w : World) :
    Calls Tryz.prog 69 #[.slice none 0 0, .int .i64 n] w fun r w' => (∃ A c, r = .returned (.slice A 0 c) ∧ EI.Row w' w.heap.size A [] c) ∧ Below w.heap.size w w' := by
  have h1 : ¬ ((n : Int) < 0) := by omega
  go_enter Tryz.func69, Tryz.ntmps69
  by_cases hz : n = 0
  · subst hz
    go_wp2
    go_ret
    exact ⟨⟨none, 0, rfl, .inl ⟨rfl, rfl⟩⟩, Below.refl _ _⟩
  · have h2 : (0 : Int) < (n : Int) := by omega
    have h3 : 0 < n := by omega
    have hw : IntKind.i64.wrap (n : Int) = (n : Int) := IntWalk.i64_in _ (by omega)
    obtain ⟨i, hi, hzr, hsz, hby⟩ := EI.parts
    have HRUN := Lib.hid (Lib.run_append_nil_zeros (P := Tryz.prog) w 24 3 24 3 i EI.z .i64 .i64 Tryz.underlying24 Tryz.underlying3 hi hzr n h3 (by rw [hsz]; show 0 < 1; omega) (by omega) (by rw [hby]; show n * 8 ≤ _; omega))
    have HROW := Lib.hid (row_freshI w n h3 hn)
    have HBEL := Lib.hid (show Below w.heap.size w (w.drew.alloc (.cells (Builtin.zeroCells EI.z.cells n ++ Builtin.zeroCells EI.z.cells (grownCap w n 0 3 - n)) 3)) by go_grown)
    have HGC := Lib.hid (grownCap_ge w n 0 3)
    obtain ⟨W1, hW1⟩ : ∃ W1, W1 = w.drew.alloc (.cells (Builtin.zeroCells EI.z.cells n ++ Builtin.zeroCells EI.z.cells (grownCap w n 0 3 - n)) 3) := ⟨_, rfl⟩
    rw [← hW1] at HRUN HROW HBEL
    obtain ⟨c, hc⟩ : ∃ c, c = grownCap w n 0 3 := ⟨_, rfl⟩
    rw [← hc] at HRUN HROW HGC
    clear hW1 hc hi hzr hsz hby i
    have hnc := HGC.out
    go_wp2_with (first
      | (at_builtin; refine Lib.wpList_append_run _ rfl (.tmp 20) (.tmp 21) 24 3 rfl _ _ rfl rfl _ _ HRUN.out ?_)
      | fail)
    go_ret
    exact ⟨⟨_, _, rfl, HROW.out⟩, HBEL.out⟩
set_option maxRecDepth 10000 in
set_option maxHeartbeats 4000000 in
theorem concatI (g : Nat) (A B : Option Addr) (n c m d : Nat) (xs ys : List Int) (w : World) (hg : w.heap[g]? = some (.cells #[.slice A n c, .slice B m d] 24 (0, 0))) (hxs : xs.length = n) (hys : ys.length = m) (hn : n ≤ 100) (hm : m ≤ 100) (hA : EI.Rd w A xs) (hB : EI.Rd w B ys) :
    Calls Tryz.prog 35 #[.slice (some ⟨g, 0, none⟩) 2 2] w fun r w' => (∃ A' c', r = .returned (.slice A' (n + m) c') ∧ EI.Row w' w.heap.size A' (xs ++ ys) c') ∧ Below w.heap.size w w' := by
  have HG := Lib.hid hg
  have Hxs := Lib.hid hxs
  have HA := Lib.hid hA
  have Hys := Lib.hid hys
  have HB := Lib.hid hB
  obtain ⟨c0, c1, -, -⟩ := has_two hg
  clear hg hxs hA hys hB
  have n1 : ¬ ((n : Int) < 0) := by omega
  have n2 : ¬ ((n : Int) + (m : Int) < 0) := by omega
  have AG := Lib.hid (grow_nilI (n + m) (by omega) w)
  have hnm : ((n + m : Nat) : Int) = (n : Int) + (m : Int) := by omega
  rw [hnm] at AG
  clear hnm
  go_enter Tryz.func35, Tryz.ntmps35
  go_wp2
  go_loopw [3, 11] (fun sv iv wr => ((iv = .int .i64 0 ∧ sv = .int .i64 0 ∧ w = wr) ∨ (iv = .int .i64 1 ∧ sv = .int .i64 n ∧ w = wr) ∨ (iv = .int .i64 2 ∧ sv = .int .i64 ((n : Int) + m) ∧ w = wr))) (fun _ i _ => 2 - (intOf i).toNat)
  case atStart => exact .inl ⟨rfl, rfl, rfl⟩
  case round =>
    rcases hrel with ⟨rfl, rfl, rfl⟩ | ⟨rfl, rfl, rfl⟩ | ⟨rfl, rfl, rfl⟩
    · go_wp2
      exact ⟨.inr (.inl (by simp)), by simp [intOf]⟩
    · go_wp2
      exact ⟨.inr (.inr (by simp)), by simp [intOf]⟩
    · go_wp2_with (first
        | (go_at_call 69; ((with_reducible refine AG.out.mono ?_); rintro e w1 ⟨⟨A0, k0, rfl, r0⟩, b1⟩; have R0 := Lib.hid r0; have B1 := Lib.hid b1; clear r0))
        | fail)
      go_loopw [6, 27] (fun sv iv wr => (iv = .int .i64 0 ∧ sv = .slice A0 0 k0 ∧ Hid (EI.Row wr w.heap.size A0 [] k0) ∧ Below w.heap.size w wr) ∨ (∃ A1 k1, iv = .int .i64 1 ∧ sv = .slice A1 (n) k1 ∧ Hid (EI.Row wr w.heap.size A1 xs k1) ∧ Below w.heap.size w wr) ∨ (∃ A1 k1, iv = .int .i64 2 ∧ sv = .slice A1 (n + m) k1 ∧ Hid (EI.Row wr w.heap.size A1 (xs ++ ys) k1) ∧ Below w.heap.size w wr)) (fun _ i _ => 2 - (intOf i).toNat)
      case atStart => exact .inl ⟨rfl, rfl, R0, B1.out⟩
      case round =>
        rcases hrel with ⟨rfl, rfl, RR, hb⟩ | ⟨A1, k1, rfl, rfl, RR, hb⟩ | ⟨A1, k1, rfl, rfl, RR, hb⟩
        · have HBB := Lib.hid hb
          obtain ⟨e0, e1, -, -⟩ := has_two (keep_bel hb HG.out)
          clear hb
          go_wp2_with (first
            | (at_builtin; refine RE.wpList_put EI _ rfl (.tmp 31) (.tmp 32) rfl (base := w.heap.size) A0 0 k0 [] A n c xs rfl rfl RR.out rfl (by omega) HBB.out.size Hxs.out (by omega) (HA.out.later HBB.out) ?_; intro A2 k2 w2 r1 r2 r3; have R1 := Lib.hid r1; have BX := Lib.hid (HBB.out.trans (RE.Row.below r2 RR.out (Nat.le_refl _) HBB.out.size)); clear r1 r2 r3)
            | fail)
          exact ⟨.inr (.inl (⟨A2, k2, by simp, by simp, Lib.hid (by simpa using R1.out), BX.out⟩)), by simp [intOf]⟩
        · have HBB := Lib.hid hb
          obtain ⟨e0, e1, -, -⟩ := has_two (keep_bel hb HG.out)
          clear hb
          go_wp2_with (first
            | (at_builtin; refine RE.wpList_put EI _ rfl (.tmp 31) (.tmp 32) rfl (base := w.heap.size) A1 (n) k1 xs B m d ys rfl rfl RR.out Hxs.out (by omega) HBB.out.size Hys.out (by omega) (HB.out.later HBB.out) ?_; intro A2 k2 w2 r1 r2 r3; have R1 := Lib.hid r1; have BX := Lib.hid (HBB.out.trans (RE.Row.below r2 RR.out (Nat.le_refl _) HBB.out.size)); clear r1 r2 r3)
            | fail)
          exact ⟨.inr (.inr (⟨A2, k2, by simp, by simp, Lib.hid (by simpa using R1.out), BX.out⟩)), by simp [intOf]⟩
        · have HBB := Lib.hid hb
          clear hb
          go_wp2
          go_ret
          exact ⟨⟨_, _, rfl, RR.out⟩, HBB.out⟩
end Go.Proofs.YtilnpeekajnlhaaGreat
namespace Go.Proofs.YtilnpeekajnlhaaGreat
open Go.RowKit Go.Maps
end Go.Proofs.YtilnpeekajnlhaaGreat
namespace Go.Proofs.YtilnpeekajnlhaaGreat
open Go.RowKit Go.Maps
theorem ei_drop {w : World} {A : Option Addr} {l : List Int} (h : EI.Rd w A l) (i c : Nat) (hc : l.length ≤ c) : EI.Rd w (if c = i then A else Option.map (fun x => x.add i) A) (l.drop i) := by
  by_cases hi : c = i
  · rw [if_pos hi, List.drop_eq_nil_of_le (by omega)]
    exact .inl rfl
  · rw [if_neg hi]
    rcases h with h | ⟨b, off, rfl, hb, hv⟩
    · have : l = [] := EI.all_empty h
      subst this
      exact .inl (by simp; rfl)
    · have q := RE.Rd.drop (E := EI) (w := w) (b := b) (off := off) (l := l) (.inr ⟨b, off, rfl, hb, hv⟩) i
      have e : (Option.map (fun x => x.add i) (some (⟨b, off, none⟩ : Addr))) = some ⟨b, off + i * EI.k, none⟩ := by
        have : EI.k = 1 := rfl
        rw [this, Nat.mul_one]
        by_cases h0 : i = 0 <;> simp [Addr.add, h0]
      rw [e]; exact q
def KidsP (L : List Int) (m : Nat) (w : World) (r : Ending) (w' : World) : Prop := (∃ A' c', r = .returned (.slice A' m c') ∧ EI.Rd w' A' L) ∧ Below w.heap.size w w'
set_option maxRecDepth 100000 in
set_option maxHeartbeats 4000000 in
theorem kids_any (A C : Option Addr) (n c i k q d v : Nat) (p L2 : List Int) (w : World) (hl : p.length = n) (hn : n ≤ 100) (hv : i + k = v) (hvn : v ≤ n) (hc : n ≤ c) (hr : EI.Rd w A p) (hq : L2.length = q) (hq1 : q ≤ 100) (hC : EI.Rd w C L2) :
    Calls Tryz.prog 37 #[.slice A n c, .int .i64 (i : Int), .int .i64 (k : Int), .slice C q d] w (KidsP (p.take i ++ L2 ++ p.drop v) (i + q + (n - v)) w) := by
  have HA := Lib.hid hr
  have HC := Lib.hid hC
  have HQ := Lib.hid hq
  have HCL := Lib.hid (show p.length ≤ c by omega)
  have HB0 := Lib.hid (alb w (.cells #[] 3 (0, 0)))
  have HR0 := Lib.hid ((RE.Row.nil : EI.Row (w.alloc (.cells #[] 3 (0, 0))) w.heap.size (some ⟨w.heap.size, 0, none⟩) [] 0))
  have L1 : Hid ((p.take i).length = i) := Lib.hid (by rw [List.length_take]; omega)
  have L3 : Hid ((p.drop v).length = n - v) := Lib.hid (by rw [List.length_drop, hl])
  have i00 : (0 : Int) ≤ (i : Int) := by omega
  have i3 : (i : Int) ≤ (c : Int) := by omega
  have i4 : (i : Int) ≤ (n : Int) := by omega
  have i5 : IntKind.i64.wrap ((i : Int) + (k : Int)) = (v : Int) := by rw [IntWalk.i64_in _ (by omega)]; omega
  have i6 : (v : Int) ≤ (n : Int) := by omega
  have i7 : (v : Int) ≤ (c : Int) := by omega
  have i8 : (0 : Int) ≤ (v : Int) := by omega
  have hiv : i ≤ n := by omega
  clear hr hC hq hl hv
  go_enter Tryz.func37, Tryz.ntmps37
  go_wp2_with (first
    | (at_builtin; refine RE.wpList_put EI _ rfl (.tmp 10) (.tmp 13) rfl (base := w.heap.size) (some ⟨w.heap.size, 0, none⟩) 0 0 [] A i c (p.take i) rfl rfl HR0.out rfl (by omega) HB0.out.size L1.out (by omega) ((HA.out.later HB0.out).take i) ?_; intro A1 k1 w1 r1 r2 r3; have R1 : Hid (EI.Row w1 w.heap.size A1 (p.take i) k1) := Lib.hid r1; have B1 := Lib.hid (HB0.out.trans (RE.Row.below r2 HR0.out (Nat.le_refl _) HB0.out.size)); clear r1 r2 r3)
    | (at_builtin; refine RE.wpList_put EI _ rfl (.tmp 15) (.tmp 16) rfl (base := w.heap.size) A1 i k1 (p.take i) C q d L2 rfl rfl R1.out L1.out (by omega) B1.out.size HQ.out (by omega) (HC.out.later B1.out) ?_; intro A2 k2 w2 r1 r2 r3; have R2 : Hid (EI.Row w2 w.heap.size A2 (p.take i ++ L2) k2) := Lib.hid r1; have B2 := Lib.hid (B1.out.trans (RE.Row.below r2 R1.out (Nat.le_refl _) B1.out.size)); clear r1 r2 r3)
    | (at_builtin; refine RE.wpList_put EI _ rfl (.tmp 18) (.tmp 23) rfl (base := w.heap.size) A2 (i + q) k2 (p.take i ++ L2) (if c = v then A else Option.map (fun x => x.add v) A) (n - v) (c - v) (p.drop v) rfl rfl R2.out (by rw [List.length_append, L1.out, HQ.out]) (by omega) B2.out.size L3.out (by omega) (ei_drop (HA.out.later B2.out) v c HCL.out) ?_; intro A3 k3 w3 r1 r2 r3; have R3 : Hid (EI.Rd w3 A3 (p.take i ++ L2 ++ p.drop v)) := Lib.hid r1.rd; have B3 := Lib.hid (B2.out.trans (RE.Row.below r2 R2.out (Nat.le_refl _) B2.out.size)); clear r1 r2 r3)
    | fail)
  all_goals go_ret
  all_goals exact ⟨⟨A3, k3, rfl, by simpa using R3.out⟩, B3.out⟩

end Go.Proofs.YtilnpeekajnlhaaGreat
