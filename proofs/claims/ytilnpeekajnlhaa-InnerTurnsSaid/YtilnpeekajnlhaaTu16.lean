/- Texts of the proof, one behind the other. -/
import Derived.Test.YtilnpeekajnlhaaTu12
import Derived.Test.YtilnpeekajnlhaaTu02
import Derived.Test.YtilnpeekajnlhaaTu05
import Derived.Lib.AppendZeros
import Derived.Deep.RegionHeld3
import Derived.IntWalk
import Derived.Deep.DeepCutAuto
import Derived.Test.YtilnpeekajnlhaaTu15
import Derived.Deep.Cut
import Derived.Shelf.Spec.SlicesInsert
import Derived.Shelf.Spec.SlicesInsertGrow
import Derived.Shelf.Slices.Delete
import Derived.Shelf.Slices.Cells
import Derived.Test.YtilnpeekajnlhaaTu04
import Derived.Test.YtilnpeekajnlhaaTu10
import Derived.Test.YtilnpeekajnlhaaTu11
set_option linter.unusedVariables false
set_option linter.unusedSimpArgs false
namespace Go.Proofs.Ytilnpeekajnlhaa
open Go.RowKit Go.Maps
/-- Messages lie in a block, and nothing but that block was changed since. -/
structure InP (w0 : World) (b off : Nat) (xs : List MG) (W : World) : Prop where
  obj : ∃ cs, W.heap[b]? = some (.cells cs 62 (0, 0)) ∧ ∀ j u, (EG.all xs)[j]? = some u → cs[off + j]? = some u
  chg : Chg (fun g => g = b) w0 W
theorem InP.later {w0 : World} {b off : Nat} {xs : List MG} {W W2 : World} (h : InP w0 b off xs W) (k : Below W.heap.size W W2) : InP w0 b off xs W2 := by
  obtain ⟨cs, z, hc⟩ := h.obj
  exact ⟨⟨cs, keep_bel k z, hc⟩, h.chg.trans (Chg.of_below k) (fun g hg => .inl hg)⟩
theorem InP.trans {w0 w1 w2 : World} {b off : Nat} {xs ys : List MG} (h : InP w0 b off xs w1) (k : InP w1 b off ys w2) : InP w0 b off ys w2 :=
  ⟨k.obj, h.chg.trans k.chg (fun g hg => .inl hg)⟩
theorem InP.refl {w0 : World} {b off : Nat} {xs : List MG} {W : World} (h : InP w0 b off xs W) : InP W b off xs W := ⟨h.obj, Chg.refl _ _⟩
theorem InP.rd {w0 : World} {b off : Nat} {xs : List MG} {W : World} (h : InP w0 b off xs W) : EG.Rd W (some ⟨b, off, none⟩) xs := by
  obtain ⟨cs, z, hc⟩ := h.obj
  refine .inr ⟨b, off, rfl, ?_, fun j u hu => ?_⟩
  · rcases Nat.lt_or_ge b W.heap.size with h' | h'
    · exact h'
    · rw [Array.getElem?_eq_none h'] at z; cases z
  · simp [World.cell?, z, hc j u hu]
def six (cs : Array Value) (o : Nat) (y : MG) : Array Value := (((((cs.setIfInBounds o (.int .u8 y.kd)).setIfInBounds (o + 1) (.int .i64 y.sq)).setIfInBounds (o + 2) (.string y.ky)).setIfInBounds (o + 3) (.string y.to)).setIfInBounds (o + 4) (.string y.vl)).setIfInBounds (o + 5) (.int .u64 y.dl)
theorem six_far (cs : Array Value) (o : Nat) (y : MG) (p : Nat) (h : p < o ∨ o + 6 ≤ p) : (six cs o y)[p]? = cs[p]? := by
  unfold six
  simp only [Array.getElem?_setIfInBounds, Array.size_setIfInBounds]
  rw [if_neg (by omega), if_neg (by omega), if_neg (by omega), if_neg (by omega), if_neg (by omega), if_neg (by omega)]
theorem six_at (cs : Array Value) (o : Nat) (y : MG) (h : o + 6 ≤ cs.size) {r : Nat} {u : Value} (hu : (EG.cs y)[r]? = some u) : (six cs o y)[o + r]? = some u := by
  unfold six
  simp only [Array.getElem?_setIfInBounds, Array.size_setIfInBounds]
  match r, hu with
  | 0, hu => simp [EG] at hu; subst hu; simp; omega
  | 1, hu => simp [EG] at hu; subst hu; simp; omega
  | 2, hu => simp [EG] at hu; subst hu; simp; omega
  | 3, hu => simp [EG] at hu; subst hu; simp; omega
  | 4, hu => simp [EG] at hu; subst hu; simp; omega
  | 5, hu => simp [EG] at hu; subst hu; simp; omega
  | r + 6, hu => simp [EG] at hu
abbrev put6 (W : World) (b o : Nat) (y : MG) : World := (((((W.setCell ⟨b, o, none⟩ (.int .u8 y.kd)).setCell ⟨b, o + 1, none⟩ (.int .i64 y.sq)).setCell ⟨b, o + 2, none⟩ (.string y.ky)).setCell ⟨b, o + 3, none⟩ (.string y.to)).setCell ⟨b, o + 4, none⟩ (.string y.vl)).setCell ⟨b, o + 5, none⟩ (.int .u64 y.dl)
theorem put6_obj {W : World} {b o : Nat} {cs : Array Value} {t : TypeId} {fr : Nat × Nat} (z : W.heap[b]? = some (.cells cs t fr)) (y : MG) : (put6 W b o y).heap[b]? = some (.cells (six cs o y) t fr) := by
  simp [World.setCell, Array.getElem?_modify, z, six]
theorem put6_chg (W : World) (b o : Nat) (y : MG) : Chg (fun g => g = b) W (put6 W b o y) := by
  have h : ∀ (V : World) (p : Nat) (v : Value), Chg (fun g => g = b) V (V.setCell ⟨b, p, none⟩ v) := fun V p v => Chg.set V v rfl
  have t : ∀ {A B C : World}, Chg (fun g => g = b) A B → Chg (fun g => g = b) B C → Chg (fun g => g = b) A C := fun x y => x.trans y (fun g hg => .inl hg)
  exact t (t (t (t (t (h W _ _) (h _ _ _)) (h _ _ _)) (h _ _ _)) (h _ _ _)) (h _ _ _)
theorem InP.set {w0 : World} {b off : Nat} {xs : List MG} {W : World} (h : InP w0 b off xs W) {i : Nat} (hi : i < xs.length) (y : MG) : InP w0 b off (xs.set i y) (put6 W b (off + i * 6) y) := by
  obtain ⟨cs, z, hc⟩ := h.obj
  refine ⟨⟨six cs (off + i * 6) y, put6_obj z y, fun j u hj => ?_⟩, h.chg.trans (put6_chg W b _ y) (fun g hg => .inl hg)⟩
  obtain ⟨k, r, x, h1, rfl, h3⟩ := RE.all_at EG hj
  have ek : EG.k = 6 := rfl
  rw [ek]
  have hr : r < 6 := by
    have q := (List.getElem?_eq_some_iff.1 h3).1
    rw [EG.len, ek] at q; exact q
  have hsz : off + i * 6 + 6 ≤ cs.size := by
    have hx : xs[i]? = some xs[i] := List.getElem?_eq_getElem hi
    have q := hc _ _ (EG.all_get hx (j := 5) (u := .int .u64 xs[i].dl) rfl)
    rw [ek] at q
    have := (Array.getElem?_eq_some_iff.1 q).1
    omega
  by_cases e : k = i
  · subst e
    rw [List.getElem?_set_self hi] at h1
    cases h1
    rw [← Nat.add_assoc]
    exact six_at cs (off + k * 6) y hsz h3
  · rw [List.getElem?_set_ne (Ne.symm e)] at h1
    have q := hc _ _ (EG.all_get h1 h3)
    rw [ek] at q
    rw [six_far cs (off + i * 6) y _ (by omega)]
    exact q
end Go.Proofs.Ytilnpeekajnlhaa
namespace Go.Proofs.Ytilnpeekajnlhaa
open Go.RowKit Go.Maps
end Go.Proofs.Ytilnpeekajnlhaa
namespace Go.Proofs.Ytilnpeekajnlhaa
open Go.RowKit Go.Maps
end Go.Proofs.Ytilnpeekajnlhaa
namespace Go.Proofs.Ytilnpeekajnlhaa
open Go.RowKit Go.Maps
theorem InP.at {w0 : World} {b off : Nat} {xs : List MG} {W : World} (h : InP w0 b off xs W) {i : Nat} {x : MG} (hi : xs[i]? = some x) : W.cell? ⟨b, off + i * 6, none⟩ = some (.int .u8 x.kd) ∧ W.cell? ⟨b, off + i * 6 + 1, none⟩ = some (.int .i64 x.sq) ∧ W.cell? ⟨b, off + i * 6 + 2, none⟩ = some (.string x.ky) ∧ W.cell? ⟨b, off + i * 6 + 3, none⟩ = some (.string x.to) ∧ W.cell? ⟨b, off + i * 6 + 4, none⟩ = some (.string x.vl) ∧ W.cell? ⟨b, off + i * 6 + 5, none⟩ = some (.int .u64 x.dl) := by
  obtain ⟨b', off', e, _, g⟩ := eg_at h.rd hi
  cases e
  exact g
theorem InP.len {w0 : World} {b off : Nat} {xs : List MG} {W : World} (h : InP w0 b off xs W) : True := trivial
end Go.Proofs.Ytilnpeekajnlhaa
namespace Go.Proofs.Ytilnpeekajnlhaa
open Go.RowKit Go.Maps
end Go.Proofs.Ytilnpeekajnlhaa
namespace Go.Proofs.Ytilnpeekajnlhaa
open Go.RowKit Go.Maps
end Go.Proofs.Ytilnpeekajnlhaa
namespace Go.Proofs.Ytilnpeekajnlhaa
open Go.RowKit Go.Maps
end Go.Proofs.Ytilnpeekajnlhaa
namespace Go.Proofs.Ytilnpeekajnlhaa
open Go.RowKit Go.Maps
/-- Two rows in order are parted so. -/
structure Parts (U V : List MG) (a m e mid s en : Nat) (U1 U2 V1 V2 : List MG) : Prop where
  u : U1 ++ U2 = U
  v : V1 ++ V2 = V
  l1 : a + U1.length = s
  l2 : s + U2.length = m
  l3 : m + V1.length = en
  l4 : en + V2.length = e
  md : s + en = mid + m
  lt : ∀ x ∈ V1, ∀ y ∈ U2, aheadM x y = true
  le : ∀ x ∈ U1, ∀ y ∈ V2, aheadM y x = false
end Go.Proofs.Ytilnpeekajnlhaa
namespace Go.Proofs.Ytilnpeekajnlhaa
open Go.RowKit Go.Maps
end Go.Proofs.Ytilnpeekajnlhaa
namespace Go.Proofs.Ytilnpeekajnlhaa
open Go.RowKit Go.Maps
end Go.Proofs.Ytilnpeekajnlhaa
namespace Go.Proofs.Ytilnpeekajnlhaa
open Go.RowKit Go.Maps
/-- A row that lies in new memory. -/
def NewR {α : Type} (E : RE α) (W : World) (base : Nat) (A : Option Addr) (l : List α) : Prop := E.Rd W A l ∧ (l = [] ∨ ∃ b off cs t, A = some ⟨b, off, none⟩ ∧ base ≤ b ∧ W.heap[b]? = some (.cells cs t (0, 0)))
theorem NewR.base {α : Type} {E : RE α} {W : World} {base b2 : Nat} {A : Option Addr} {l : List α} (h : NewR E W base A l) (hb : b2 ≤ base) : NewR E W b2 A l :=
  ⟨h.1, h.2.imp id (fun ⟨b, off, cs, t, e, h2, h3⟩ => ⟨b, off, cs, t, e, Nat.le_trans hb h2, h3⟩)⟩
theorem NewR.chgB {α : Type} {E : RE α} {W W' : World} {base N : Nat} {A : Option Addr} {l : List α} (h : NewR E W base A l) (hc : Chg (fun g => g = N) W W') (hN : N < base) : NewR E W' base A l := by
  rcases h with ⟨h1, h2⟩
  rcases h2 with rfl | ⟨b, off, cs, t, rfl, hb, hz⟩
  · exact ⟨.inl rfl, .inl rfl⟩
  · refine ⟨?_, .inr ⟨b, off, cs, t, rfl, hb, keep_chg hc hz (fun e => by omega)⟩⟩
    rcases h1 with h1 | ⟨b', off', e, hlt, hv⟩
    · exact .inl h1
    · cases e
      exact .inr ⟨b, off, rfl, Nat.lt_of_lt_of_le hlt hc.size, fun j u hj => (World.cell?_of_block (hc.block b hlt (fun e => by omega))).trans (hv j u hj)⟩
theorem NewR.later {α : Type} {E : RE α} {W W' : World} {base : Nat} {A : Option Addr} {l : List α} (h : NewR E W base A l) (hb : Below W.heap.size W W') : NewR E W' base A l := ⟨h.1.later hb, h.2.imp id (fun ⟨b, off, cs, t, e, h2, h3⟩ => ⟨b, off, cs, t, e, h2, keep_bel hb h3⟩)⟩
theorem set5_0' {W : World} {g : Nat} {a b c d e : Value} {t : TypeId} (z : W.heap[g]? = some (.cells #[a, b, c, d, e] t (0, 0))) (v : Value) : (W.setCell ⟨g, 0, none⟩ v).heap[g]? = some (.cells #[v, b, c, d, e] t (0, 0)) := by
  have hlt : g < W.heap.size := (Array.getElem?_eq_some_iff.1 z).1
  have q : W.heap[g] = .cells #[a, b, c, d, e] t (0, 0) := by have := z; rw [Array.getElem?_eq_getElem hlt] at this; exact Option.some.inj this
  rw [Array.getElem?_eq_getElem (by simpa [World.setCell] using hlt)]
  simp [World.setCell, Array.getElem_modify, q]
theorem set5w {W : World} {g : Nat} {a b c d e : Value} {t : TypeId} (z : W.heap[g]? = some (.cells #[a, b, c, d, e] t (0, 0))) (a' b' c' d' e' : Value) : (((((W.setCell ⟨g, 0, none⟩ a').setCell ⟨g, 1, none⟩ b').setCell ⟨g, 2, none⟩ c').setCell ⟨g, 3, none⟩ d').setCell ⟨g, 4, none⟩ e').heap[g]? = some (.cells #[a', b', c', d', e'] t (0, 0)) :=
  set5_4 (set5_3 (set5_2 (set5_1 (set5_0' z _) _) _) _) _
end Go.Proofs.Ytilnpeekajnlhaa
namespace Go.Proofs.Ytilnpeekajnlhaa
open Go.RowKit Go.Maps
/-- A later world, and what lies in boxes. -/
structure SK (W : World) (Q : List (Nat × Obj)) (V : World) : Prop where
  b : Below W.heap.size W V
  q : ∀ p ∈ Q, V.heap[p.1]? = some p.2
theorem SK.g {W V : World} {Q : List (Nat × Obj)} (h : SK W Q V) (i : Nat) {g : Nat} {o : Obj} (hx : Q[i]? = some (g, o)) : V.heap[g]? = some o := h.q (g, o) (List.mem_of_getElem? hx)
theorem SK.later {W V V2 : World} {Q : List (Nat × Obj)} (h : SK W Q V) (b : Below V.heap.size V V2) : SK W Q V2 := ⟨bel_trans h.b b, fun p hp => keep_bel b (h.q p hp)⟩
theorem SK.start {W : World} {Q : List (Nat × Obj)} (h : ∀ p ∈ Q, W.heap[p.1]? = some p.2) : SK W Q W.drew := ⟨(Below.refl _ _).drew, fun p hp => h p hp⟩
end Go.Proofs.Ytilnpeekajnlhaa
namespace Go.Proofs.Ytilnpeekajnlhaa
open Go.RowKit Go.Maps
theorem small_yes {n k m b : Nat} (h : smallB n k m b = true) : k ≤ 20 ∧ n ≤ 20 ∧ m ≤ 30 ∧ b ≤ 5 := by
  unfold smallB at h
  simp only [Bool.and_eq_true, decide_eq_true_eq] at h
  omega
/-- A row of so many cells may be written; it lies between two marks. -/
def WrO (W : World) (N NL : Nat) (A : Option Addr) (m : Nat) : Prop := m = 0 ∨ ∃ b off cs t, A = some ⟨b, off, none⟩ ∧ N ≤ b ∧ b < NL ∧ W.heap[b]? = some (.cells cs t (0, 0)) ∧ off + m ≤ cs.size
theorem WrO.later {W W2 : World} {N NL m : Nat} {A : Option Addr} (h : WrO W N NL A m) (k : Below W.heap.size W W2) : WrO W2 N NL A m :=
  h.imp id (fun ⟨b, off, cs, t, e, h1, h2, h3, h4⟩ => ⟨b, off, cs, t, e, h1, h2, keep_bel k h3, h4⟩)
theorem WrO.wide {W : World} {N N2 NL NL2 m : Nat} {A : Option Addr} (h : WrO W N NL A m) (h1 : N2 ≤ N) (h2 : NL ≤ NL2) : WrO W N2 NL2 A m :=
  h.imp id (fun ⟨b, off, cs, t, e, k1, k2, k3⟩ => ⟨b, off, cs, t, e, Nat.le_trans h1 k1, Nat.lt_of_lt_of_le k2 h2, k3⟩)
theorem WrO.set {W : World} {N NL m : Nat} {A : Option Addr} (h : WrO W N NL A m) (g o : Nat) (v : Value) : WrO (W.setCell ⟨g, o, none⟩ v) N NL A m := by
  rcases h with h | ⟨b, off, cs, t, rfl, h1, h2, h3, h4⟩
  · exact .inl h
  · by_cases e : g = b
    · subst e
      refine .inr ⟨g, off, cs.setIfInBounds o v, t, rfl, h1, h2, ?_, by simpa using h4⟩
      have hlt : g < W.heap.size := (Array.getElem?_eq_some_iff.1 h3).1
      have q : W.heap[g] = .cells cs t (0, 0) := by have := h3; rw [Array.getElem?_eq_getElem hlt] at this; exact Option.some.inj this
      rw [Array.getElem?_eq_getElem (by simpa [World.setCell] using hlt)]
      simp [World.setCell, Array.getElem_modify, q]
    · refine .inr ⟨b, off, cs, t, rfl, h1, h2, ?_, h4⟩
      simp [World.setCell, Array.getElem?_modify, h3, e]
theorem WrO.at {W : World} {N NL m : Nat} {A : Option Addr} (h : WrO W N NL A m) {j : Nat} (hj : j < m) : ∃ b off, A = some ⟨b, off, none⟩ ∧ N ≤ b ∧ b < NL ∧ b < W.heap.size ∧ (∀ i, i < m → (∃ x, W.cell? ⟨b, off + i, none⟩ = some x) ∧ W.frozen? ⟨b, off + i, none⟩ = false) := by
  rcases h with h | ⟨b, off, cs, t, rfl, h1, h2, h3, h4⟩
  · omega
  · refine ⟨b, off, rfl, h1, h2, (Array.getElem?_eq_some_iff.1 h3).1, fun i hi => ⟨⟨cs[off + i]'(by omega), ?_⟩, ?_⟩⟩
    · simp [World.cell?, h3, Array.getElem?_eq_getElem (show off + i < cs.size by omega)]
    · simp [World.frozen?, h3]
theorem WrO.row {α : Type} {E : RE α} {W : World} {base : Nat} {A : Option Addr} {l : List α} {c n : Nat} (h : E.Row W base A l c) (hn : l.length = n) : WrO W base W.heap.size A (n * E.k) := by
  subst hn
  rcases h with ⟨e, _⟩ | ⟨h0, h1, h2⟩
  · subst e; exact .inl (by simp)
  · rcases h2 with ⟨hv, hn⟩ | ⟨g, cap, cur, hv, hb, hz, h3, h4, h5, h6⟩
    · injection hv with e1 e2 e3; omega
    · cases hv
      refine .inr ⟨g, 0, cur, E.et, rfl, hb, (Array.getElem?_eq_some_iff.1 hz).1, hz, ?_⟩
      have := congrArg List.length h6
      rw [List.length_take, E.all_len] at this
      simp at this
      omega
/-- Three rows that may be written. -/
structure WR (W : World) (N NL : Nat) (P : Option Addr) (n : Nat) (J : Option Addr) (k : Nat) (M : Option Addr) (m : Nat) : Prop where
  w1 : WrO W N NL P n
  w2 : WrO W N NL J k
  w3 : WrO W N NL M (m * 6)
theorem WR.later {W W2 : World} {N NL n k m : Nat} {P J M : Option Addr} (h : WR W N NL P n J k M m) (b : Below W.heap.size W W2) : WR W2 N NL P n J k M m := ⟨h.w1.later b, h.w2.later b, h.w3.later b⟩
theorem WR.wide {W : World} {N N2 NL NL2 n k m : Nat} {P J M : Option Addr} (h : WR W N NL P n J k M m) (h1 : N2 ≤ N) (h2 : NL ≤ NL2) : WR W N2 NL2 P n J k M m := ⟨h.w1.wide h1 h2, h.w2.wide h1 h2, h.w3.wide h1 h2⟩
theorem R3.wr {W : World} {base : Nat} {P J M : Option Addr} {p j mc n k m : Nat} {pa : List ByteArray} {ia : List Int} {ma : List MG} (h : R3 W base P J M p j mc pa ia ma) (q1 : pa.length = n) (q2 : ia.length = k) (q3 : ma.length = m) : WR W base W.heap.size P n J k M m :=
  ⟨by have := WrO.row h.r1 q1; rwa [show n * ES.k = n from Nat.mul_one n] at this, by have := WrO.row h.r2 q2; rwa [show k * EI.k = k from Nat.mul_one k] at this, WrO.row h.r3 q3⟩
end Go.Proofs.Ytilnpeekajnlhaa
namespace Go.Proofs.Ytilnpeekajnlhaa
open Go.Shelf
def LinsA_ren : Go.Shelf.Ren := ⟨fun | 21 => 50 | 27 => 91 | 28 => 92 | 35 => 114 | 39 => 125 | n => n, fun | 22 => 24 | n => n, fun n => n⟩
theorem LinsA : Go.Proofs.Lays2.n21 Try.prog LinsA_ren := {
  mixed := by kernel_rfl
  f21 := Try.func50.trans (congrArg some (by kernel_rfl))
  f27 := Try.func91.trans (congrArg some (by kernel_rfl))
  f28 := Try.func92.trans (congrArg some (by kernel_rfl))
  f35 := Try.func114.trans (congrArg some (by kernel_rfl))
  f39 := Try.func125.trans (congrArg some (by kernel_rfl))
  t0 := Try.underlying0
  a0 := Try.isAgg0
  z0 := Try.sizeOf0
  v0 := Try.zeroValue0
  t3 := Try.underlying3
  a3 := Try.isAgg3
  z3 := Try.sizeOf3
  v3 := Try.zeroValue3
  t4 := Try.underlying4
  a4 := Try.isAgg4
  z4 := Try.sizeOf4
  v4 := Try.zeroValue4
  t22 := Try.underlying24
  a22 := Try.isAgg24
  z22 := Try.sizeOf24
  v22 := Try.zeroValue24
  i3 := by kernel_rfl }
def LdelA_ren : Go.Shelf.Ren := ⟨fun | 23 => 54 | n => n, fun | 22 => 24 | n => n, fun n => n⟩
theorem LdelA : Go.Proofs.Lays2.n23 Try.prog LdelA_ren := {
  mixed := by kernel_rfl
  f23 := Try.func54.trans (congrArg some (by kernel_rfl))
  t0 := Try.underlying0
  a0 := Try.isAgg0
  z0 := Try.sizeOf0
  v0 := Try.zeroValue0
  t3 := Try.underlying3
  a3 := Try.isAgg3
  z3 := Try.sizeOf3
  v3 := Try.zeroValue3
  t4 := Try.underlying4
  a4 := Try.isAgg4
  z4 := Try.sizeOf4
  v4 := Try.zeroValue4
  t22 := Try.underlying24
  a22 := Try.isAgg24
  z22 := Try.sizeOf24
  v22 := Try.zeroValue24
  i3 := by kernel_rfl }
end Go.Proofs.Ytilnpeekajnlhaa
namespace Go.Proofs.Ytilnpeekajnlhaa
open Go.RowKit Go.Maps
end Go.Proofs.Ytilnpeekajnlhaa
namespace Go.Proofs.Ytilnpeekajnlhaa
open Go.RowKit Go.Maps
theorem inK_iff (p : List ByteArray) (f t : ByteArray) : ∀ k, Pv.inK p f t k = true ↔ ∀ j, j < k → lt f (Pv.at_ p j) = true ∧ sb (Pv.at_ p j) t = true
  | 0 => by simp [Pv.inK]
  | k + 1 => by
    show (Pv.inK p f t k && (lt f (Pv.at_ p k) && sb (Pv.at_ p k) t)) = true ↔ _
    rw [Bool.and_eq_true, Bool.and_eq_true, inK_iff p f t k]
    constructor
    · rintro ⟨h1, h2⟩ j hj
      by_cases e : j = k
      · subst e; exact h2
      · exact h1 j (by omega)
    · intro h
      exact ⟨fun j hj => h j (by omega), h k (by omega)⟩
theorem riseK_of {p : List ByteArray} (h : ∀ i j, i < j → j < p.length → lt (Pv.at_ p i) (Pv.at_ p j) = true) : ∀ k, k ≤ p.length → Pv.riseK p k = true
  | 0, _ => rfl
  | k + 1, hk => by
    show (Pv.riseK p k && (decide (k = 0) || lt (Pv.at_ p (k - 1)) (Pv.at_ p k))) = true
    rw [riseK_of h k (by omega), Bool.true_and]
    by_cases e : k = 0
    · simp [e]
    · rw [h (k - 1) k (by omega) (by omega)]; simp
theorem pv_iff (p : List ByteArray) (f t : ByteArray) : Pv.rightB p f t = true ↔ sb f t = true ∧ (∀ j, j < p.length → lt f (Pv.at_ p j) = true ∧ sb (Pv.at_ p j) t = true) ∧ (∀ i j, i < j → j < p.length → lt (Pv.at_ p i) (Pv.at_ p j) = true) := by
  unfold Pv.rightB
  rw [Bool.and_eq_true, Bool.and_eq_true, inK_iff]
  constructor
  · rintro ⟨h1, h2, h3⟩
    exact ⟨h2, h1, fun i j a b => Pv.rise_all h3 i j a b⟩
  · rintro ⟨h1, h2, h3⟩
    exact ⟨h2, h1, riseK_of h3 _ (Nat.le_refl _)⟩
theorem kidsK_iff (l : List Int) : ∀ j, j ≤ l.length → (kidsK l j = true ↔ (∀ x ∈ l.take j, 1 ≤ x ∧ x ≤ 4096) ∧ (l.take j).Nodup)
  | 0, _ => by simp [kidsK]
  | j + 1, hj => by
    obtain ⟨x, hx⟩ : ∃ x, l[j]? = some x := ⟨_, List.getElem?_eq_getElem (by omega)⟩
    rw [kids_at hx, Bool.and_eq_true, kidsK_iff l j (by omega), List.take_add_one, hx]
    unfold kidB
    simp only [Bool.and_eq_true, decide_eq_true_eq, Option.toList_some, List.mem_append, List.mem_singleton, Bool.not_eq_true', List.nodup_append]
    constructor
    · rintro ⟨⟨h1, h2⟩, h3, h4, h5⟩
      refine ⟨?_, h2, by simp, ?_⟩
      · rintro y (hy | rfl)
        · exact h1 y hy
        · exact ⟨h3, h4⟩
      · intro a ha b hb e
        subst e
        subst hb
        rw [List.contains_eq_mem] at h5
        simp at h5
        exact h5 ha
    · rintro ⟨h1, h2, -, h3⟩
      refine ⟨⟨fun y hy => h1 y (.inl hy), h2⟩, (h1 x (.inr rfl)).1, (h1 x (.inr rfl)).2, ?_⟩
      rw [List.contains_eq_mem]
      simp
      intro hm
      exact h3 x hm x rfl rfl
theorem kids_iff (l : List Int) : kidsB l = true ↔ (∀ x ∈ l, 1 ≤ x ∧ x ≤ 4096) ∧ l.Nodup := by
  unfold kidsB
  rw [kidsK_iff l l.length (Nat.le_refl _), List.take_length]
end Go.Proofs.Ytilnpeekajnlhaa
namespace Go.Proofs.Ytilnpeekajnlhaa
open Go.RowKit Go.Maps Go.Shelf
theorem ei_all : ∀ q : List Int, EI.all q = q.map (Value.int .i64)
  | [] => rfl
  | x :: xs => by rw [RE.all_cons, ei_all xs]; rfl
theorem chg_cells (g : Nat) : ∀ (vs : List Value) (o : Nat) (w : World), Chg (fun x => x = g) w (w.setCells g o vs)
  | [], o, w => Chg.refl _ _
  | v :: vs, o, w => (Chg.set (D := fun x => x = g) w v rfl).trans (chg_cells g vs (o + 1) _) (fun g hg => .inl hg)
theorem rd_cells {W : World} {b : Nat} {xs : List Int} (hb : b < W.heap.size) (h : ∀ j v, (xs.map (Value.int .i64))[j]? = some v → W.cell? ⟨b, j, none⟩ = some v) : EI.Rd W (some ⟨b, 0, none⟩) xs := by
  refine .inr ⟨b, 0, rfl, hb, fun j u hu => ?_⟩
  rw [ei_all] at hu
  rw [Nat.zero_add]
  exact h j u hu
theorem at_ins {cs vs : List Value} {i j : Nat} {x v : Value} (hv : vs = [x]) (hi : i ≤ cs.length) (h : (cs.take i ++ vs ++ cs.drop i)[j]? = some v) : (j < i ∧ cs[j]? = some v) ∨ (j = i ∧ v = x) ∨ (i < j ∧ cs[j - 1]? = some v) := by
  subst hv
  rcases Nat.lt_trichotomy j i with hj | hj | hj
  · left
    rw [List.append_assoc, List.getElem?_append_left (by rw [List.length_take]; omega), List.getElem?_take, if_pos hj] at h
    exact ⟨hj, h⟩
  · right; left
    subst hj
    rw [List.append_assoc, List.getElem?_append_right (by rw [List.length_take]; omega), List.length_take] at h
    rw [show j - min j cs.length = 0 by omega] at h
    simp at h
    exact ⟨rfl, h.symm⟩
  · right; right
    rw [List.getElem?_append_right (by rw [List.length_append, List.length_take]; simp; omega), List.length_append, List.length_take, List.getElem?_drop] at h
    refine ⟨hj, ?_⟩
    rw [show i + (j - (min i cs.length + [x].length)) = j - 1 by simp; omega] at h
    exact h
set_option maxRecDepth 100000 in
set_option maxHeartbeats 4000000 in
theorem insI_any (A : Option Addr) (xs : List Int) (n c i base vb : Nat) (x : Int) (w : World) (hl : xs.length = n) (hn : n ≤ 1000) (hi : i ≤ n) (hn0 : 0 < n) (hR : EI.Row w base A xs c) (hv : w.heap[vb]? = some (.cells #[.int .i64 x] 3 (0, 0))) (hvb : ∀ g, A = some ⟨g, 0, none⟩ → vb ≠ g) :
    Calls Try.prog 50 #[.slice A n c, .int .i64 i, .slice (some ⟨vb, 0, none⟩) 1 1] w fun r w' => (∃ A' c', r = .returned (.slice A' (n + 1) c') ∧ EI.Rd w' A' (xs.take i ++ [x] ++ xs.drop i) ∧ (∀ b o s, A' = some ⟨b, o, s⟩ → base ≤ b)) ∧ Chg (fun y => A = some ⟨y, 0, none⟩) w w' := by
  rcases hR with ⟨e, _⟩ | ⟨h0, h1, h2⟩
  · subst e; simp at hl; omega
  rcases h2 with ⟨hv', hn'⟩ | ⟨g, c2, cur, hv', hb, hz, h3, h4, h5, h6⟩
  · injection hv' with e1 e2 e3; omega
  cases hv'
  have hk : EI.k = 1 := rfl
  have hlen : (EI.all xs).length = n := by rw [EI.all_len, hk, hl]; omega
  rw [hl, hk, Nat.mul_one] at h6
  rw [hk, Nat.mul_one] at h5
  rw [hl] at h3
  have hgs : g < w.heap.size := (Array.getElem?_eq_some_iff.1 hz).1
  have hbs : base ≤ w.heap.size := by omega
  have hvg := hvb g rfl
  have hcells : ∀ j v, (EI.all xs)[j]? = some v → w.cell? ⟨g, 0 + j, none⟩ = some v := by
    intro j v hj
    rw [← h6, List.getElem?_take] at hj
    split at hj
    · rw [Nat.zero_add]
      simp [World.cell?, hz]
      simpa using hj
    · cases hj
  have hsome : ∀ j, j < c → (w.cell? ⟨g, 0 + j, none⟩).isSome = true := by
    intro j hj
    rw [Nat.zero_add]
    simp [World.cell?, hz]
    omega
  have hfr : ∀ j, w.frozen? ⟨g, 0 + j, none⟩ = false := fun j => by simp [World.frozen?, hz]
  have hvs : ∀ j v, [Value.int .i64 x][j]? = some v → w.cell? ⟨vb, 0 + j, none⟩ = some v := by
    intro j v hj
    have : j = 0 := by
      have := (List.getElem?_eq_some_iff.1 hj).1
      simpa using this
    subst this
    simp at hj
    subst hj
    simp [World.cell?, hv]
  have h1c : ∀ v ∈ EI.all xs, v.oneCell' = true := fun v hv => EI.one_all xs v hv
  have h1v : ∀ v ∈ [Value.int .i64 x], v.oneCell' = true := fun v hv => by simp at hv; subst hv; rfl
  have htgt : (xs.take i ++ [x] ++ xs.drop i).map (Value.int .i64) = (EI.all xs).take i ++ [Value.int .i64 x] ++ (EI.all xs).drop i := by
    rw [ei_all]; simp [List.map_take, List.map_drop]
  have hlc : (EI.all xs).length = xs.length := by rw [hlen, hl]
  have fin : ∀ (W : World) (b : Nat), b < W.heap.size → (∀ j v, ((EI.all xs).take i ++ [Value.int .i64 x] ++ (EI.all xs).drop i)[j]? = some v → W.cell? ⟨b, j, none⟩ = some v) → EI.Rd W (some ⟨b, 0, none⟩) (xs.take i ++ [x] ++ xs.drop i) := fun W b hb h => rd_cells hb (fun j v hj => h j v (by rw [← htgt]; exact hj))
  rcases Nat.lt_or_ge c (n + 1) with hroom | hroom
  · by_cases hin : i < n
    · have q := Any2.slices_Insert_int_grow LinsA g 0 n c i vb 0 1 1 (EI.all xs) [.int .i64 x] w hin (by omega) h3 hroom (by omega) hlen rfl hcells hvs h1c h1v
      refine (show Calls Try.prog 50 #[.slice (some ⟨g, 0, none⟩) n c, .int .i64 i, .slice (some ⟨vb, 0, none⟩) 1 1] w _ from q).mono ?_
      rintro e w' ⟨rfl, rfl⟩
      obtain ⟨V, hV⟩ : ∃ V, V = w.alloc (.cells (((EI.all xs).take i).toArray ++ Builtin.zeroCells (Value.int .i64 0).cells (n + 1 - i) ++ Builtin.zeroCells (Value.int .i64 0).cells (grownCap w (n + 1) c (LinsA_ren.t 3) - (n + 1))) (LinsA_ren.t 3)) := ⟨_, rfl⟩
      have hVz : V.heap[w.heap.size]? = some (.cells (((EI.all xs).take i).toArray ++ Builtin.zeroCells (Value.int .i64 0).cells (n + 1 - i) ++ Builtin.zeroCells (Value.int .i64 0).cells (grownCap w (n + 1) c (LinsA_ren.t 3) - (n + 1))) (LinsA_ren.t 3)) := by rw [hV]; exact heap_alloc_new _ _
      have hVs : w.heap.size < V.heap.size := (Array.getElem?_eq_some_iff.1 hVz).1
      have hVc : ∀ j, j < n + 1 → (V.cell? ⟨w.heap.size, j, none⟩).isSome = true := by
        intro j hj
        have e1 : (Value.int .i64 0).cells.size = 1 := rfl
        have hsz : j < (((EI.all xs).take i).toArray ++ Builtin.zeroCells (Value.int .i64 0).cells (n + 1 - i) ++ Builtin.zeroCells (Value.int .i64 0).cells (grownCap w (n + 1) c (LinsA_ren.t 3) - (n + 1))).size := by
          rw [Array.size_append, Array.size_append, size_zeroCells, size_zeroCells, e1]
          have : ((EI.all xs).take i).toArray.size = i := by simp; omega
          omega
        simp only [World.cell?, hVz]
        rw [Array.getElem?_eq_getElem hsz]
        rfl
      have hVt : ∀ j v, j < i → (EI.all xs)[j]? = some v → V.cell? ⟨w.heap.size, j, none⟩ = some v := by
        intro j v hj hv
        simp only [World.cell?, hVz]
        rw [Array.append_assoc, Array.getElem?_append_left (by first | (simp; done) | (simp; omega))]
        simp [List.getElem?_take, hj, hv]
      have BV : Below w.heap.size w V := by rw [hV]; exact alb _ _
      rw [← hV]
      clear hV
      have B1 : Below w.heap.size V ((V.drew.setCells w.heap.size i [.int .i64 x]).drew.setCells w.heap.size (i + 1) ((EI.all xs).drop i)) := by
        have k1 := (chg_cells w.heap.size [Value.int .i64 x] i V.drew).below (lo := w.heap.size) (fun g e => by omega) (by show w.heap.size ≤ V.heap.size; omega)
        have k2 := (chg_cells w.heap.size ((EI.all xs).drop i) (i + 1) ((V.drew.setCells w.heap.size i [.int .i64 x]).drew)).below (lo := w.heap.size) (fun g e => by omega) (by have := k1.size; show w.heap.size ≤ (V.drew.setCells w.heap.size i [.int .i64 x]).heap.size; have : V.drew.heap.size = V.heap.size := rfl; omega)
        exact ((Below.refl _ _).drew.trans k1).drew.trans k2
      have hld : ((EI.all xs).drop i).length = n - i := by rw [List.length_drop, hlen]
      have hs1 : ∀ j, j < [Value.int .i64 x].length → (V.drew.cell? ⟨w.heap.size, i + j, none⟩).isSome = true := by
        intro j hj
        have : j = 0 := by simpa using hj
        subst this
        exact hVc i (by omega)
      have hs2 : ∀ j, j < ((EI.all xs).drop i).length → ((V.drew.setCells w.heap.size i [.int .i64 x]).drew.cell? ⟨w.heap.size, i + 1 + j, none⟩).isSome = true := by
        intro j hj
        show ((V.drew.setCells w.heap.size i [.int .i64 x]).cell? ⟨w.heap.size, i + 1 + j, none⟩).isSome = true
        rw [World.cell?_setCells_out _ _ _ _ _ (fun _ _ => .inr (by first | (simp; done) | (simp; omega)))]
        exact hVc (i + 1 + j) (by omega)
      refine ⟨⟨_, _, rfl, fin _ _ (by have := B1.size; omega) (fun j v hj => ?_), fun b o s e => by cases e; exact hbs⟩, Chg.of_below (BV.trans ?_)⟩
      · rcases at_ins rfl (by omega) hj with ⟨a1, a2⟩ | ⟨a1, a2⟩ | ⟨a1, a2⟩
        · rw [World.cell?_setCells_out _ _ _ _ _ (fun _ _ => .inl (by first | (simp; done) | (simp; omega)))]
          show (V.drew.setCells w.heap.size i [.int .i64 x]).cell? _ = _
          rw [World.cell?_setCells_out _ _ _ _ _ (fun _ _ => .inl (by first | (simp; done) | (simp; omega)))]
          exact hVt j v a1 a2
        · subst a1 a2
          rw [World.cell?_setCells_out _ _ _ _ _ (fun _ _ => .inl (by simp))]
          have := World.cell?_setCells_in w.heap.size [Value.int .i64 x] j _ hs1 0 (by simp)
          simpa using this
        · have hjn := (List.getElem?_eq_some_iff.1 a2).1
          have := World.cell?_setCells_in w.heap.size ((EI.all xs).drop i) (i + 1) _ hs2 (j - (i + 1)) (by omega)
          rw [show i + 1 + (j - (i + 1)) = j by omega] at this
          rw [this]
          have e2 : ((EI.all xs).drop i)[j - (i + 1)]? = some v := by rw [List.getElem?_drop, show i + (j - (i + 1)) = j - 1 by omega]; exact a2
          rw [← e2, List.getElem?_eq_getElem (by omega)]
      · exact B1
    · have hin' : i = n := by omega
      subst hin'
      have q := Any2.slices_Insert_int_end_grow LinsA (some ⟨g, 0, none⟩) i c vb 0 1 1 (EI.all xs) [.int .i64 x] w (by omega) h3 hroom (by omega) hlen rfl (fun e => by cases e) (fun a e j v hj => by cases e; have := hcells j v hj; simpa [Addr.add] using (by by_cases hj0 : j = 0 <;> simp_all [Addr.add] : w.cell? ((⟨g, 0, none⟩ : Addr).add j) = some v)) hvs h1v
      refine (show Calls Try.prog 50 #[.slice (some ⟨g, 0, none⟩) i c, .int .i64 i, .slice (some ⟨vb, 0, none⟩) 1 1] w _ from q).mono ?_
      rintro e w' ⟨rfl, rfl⟩
      have hz2 := heap_alloc_new w.drew (.cells ((EI.all xs ++ [Value.int .i64 x]).toArray ++ Builtin.zeroCells (Value.int .i64 0).cells (grownCap w (i + 1) c (LinsA_ren.t 3) - (i + 1))) (LinsA_ren.t 3))
      refine ⟨⟨_, _, rfl, fin _ _ (Array.getElem?_eq_some_iff.1 hz2).1 (fun j v hj => ?_), fun b o s e => by cases e; exact hbs⟩, Chg.of_below ((Below.refl w.heap.size w).drew.trans (alb w.drew _))⟩
      have hj2 : (EI.all xs ++ [Value.int .i64 x])[j]? = some v := by
        rw [List.drop_eq_nil_of_le (by omega), List.append_nil, List.take_of_length_le (by omega)] at hj
        exact hj
      have hjl := (List.getElem?_eq_some_iff.1 hj2).1
      show (w.drew.alloc _).cell? ⟨w.drew.heap.size, j, none⟩ = some v
      simp only [World.cell?, hz2]
      rw [Array.getElem?_append_left (by simpa using hjl)]
      simpa using hj2
  · by_cases hin : i < n
    · have q := Any2.slices_Insert_int_shift LinsA g 0 n c i vb 0 1 1 (EI.all xs) [.int .i64 x] w hin (by omega) hroom h4 hvg hlen rfl hcells (fun j hj => hsome j (by omega)) (fun j _ => hfr j) hvs h1c h1v 3 3 1 c (by simp [World.shape?, hv]) (by simp [World.shape?, hz, h5]; rfl) (by omega) (by simp [World.frozen?, hv]) (by simp [World.frozen?, hv])
      refine (show Calls Try.prog 50 #[.slice (some ⟨g, 0, none⟩) n c, .int .i64 i, .slice (some ⟨vb, 0, none⟩) 1 1] w _ from q).mono ?_
      rintro e w' ⟨rfl, rfl⟩
      have k1 := chg_cells g ((EI.all xs).drop i) (0 + (i + 1)) w.drew
      have k2 := chg_cells g [Value.int .i64 x] (0 + i) (w.drew.setCells g (0 + (i + 1)) ((EI.all xs).drop i))
      have hld : ((EI.all xs).drop i).length = n - i := by rw [List.length_drop, hlen]
      have hs1 : ∀ j, j < ((EI.all xs).drop i).length → (w.drew.cell? ⟨g, 0 + (i + 1) + j, none⟩).isSome = true := by
        intro j hj
        have := hsome (i + 1 + j) (by omega)
        rw [show 0 + (i + 1) + j = 0 + (i + 1 + j) by omega]
        exact this
      have hs2 : ∀ j, j < [Value.int .i64 x].length → ((w.drew.setCells g (0 + (i + 1)) ((EI.all xs).drop i)).cell? ⟨g, 0 + i + j, none⟩).isSome = true := by
        intro j hj
        rw [World.cell?_setCells_out _ _ _ _ _ (fun _ _ => .inl (by simp at hj ⊢; omega))]
        have : j = 0 := by simpa using hj
        subst this
        exact hsome i (by omega)
      refine ⟨⟨_, _, rfl, fin _ _ (by have := k1.size; have := k2.size; have e : w.drew.heap.size = w.heap.size := rfl; omega) (fun j v hj => ?_), fun b o s e => by cases e; exact hb⟩, ?_⟩
      · rcases at_ins rfl (by omega) hj with ⟨a1, a2⟩ | ⟨a1, a2⟩ | ⟨a1, a2⟩
        · rw [World.cell?_setCells_out _ _ _ _ _ (fun _ _ => .inl (by first | (simp; done) | (simp; omega))), World.cell?_setCells_out _ _ _ _ _ (fun _ _ => .inl (by first | (simp; done) | (simp; omega)))]
          have := hcells j v a2
          rw [Nat.zero_add] at this
          exact this
        · subst a1 a2
          have := World.cell?_setCells_in g [Value.int .i64 x] (0 + j) _ hs2 0 (by simp)
          simpa using this
        · rw [World.cell?_setCells_out _ _ _ _ _ (fun _ _ => .inr (by first | (simp; done) | (simp; omega)))]
          have hjn := (List.getElem?_eq_some_iff.1 a2).1
          have := World.cell?_setCells_in g ((EI.all xs).drop i) (0 + (i + 1)) w.drew hs1 (j - (i + 1)) (by omega)
          rw [show 0 + (i + 1) + (j - (i + 1)) = j by omega] at this
          rw [this]
          have e2 : ((EI.all xs).drop i)[j - (i + 1)]? = some v := by rw [List.getElem?_drop, show i + (j - (i + 1)) = j - 1 by omega]; exact a2
          rw [← e2, List.getElem?_eq_getElem (by omega)]
      · exact (((Chg.drew (fun y => y = g) w).trans k1 (fun y e => .inl e)).trans k2 (fun y e => .inl e)).more (fun y e => .inl (by rw [e]))
    · have hin' : i = n := by omega
      subst hin'
      have q := Any2.slices_Insert_int_end_room LinsA g 0 i c vb 0 1 1 [.int .i64 x] w (by omega) hroom h4 rfl (fun j hj => by have := hsome (i + j) (by omega); rw [show 0 + i + j = 0 + (i + j) by omega]; exact this) (fun j hj => by have := hfr (i + j); rw [show 0 + i + j = 0 + (i + j) by omega]; exact this) hvs h1v
      refine (show Calls Try.prog 50 #[.slice (some ⟨g, 0, none⟩) i c, .int .i64 i, .slice (some ⟨vb, 0, none⟩) 1 1] w _ from q).mono ?_
      rintro e w' ⟨rfl, rfl⟩
      have k1 := chg_cells g [Value.int .i64 x] (0 + i) w
      refine ⟨⟨_, _, rfl, fin _ _ (by have := k1.size; omega) (fun j v hj => ?_), fun b o s e => by cases e; exact hb⟩, k1.more (fun y e => .inl (by rw [e]))⟩
      rcases at_ins rfl (by omega) hj with ⟨a1, a2⟩ | ⟨a1, a2⟩ | ⟨a1, a2⟩
      · rw [World.cell?_setCells_out _ _ _ _ _ (fun _ _ => .inl (by first | (simp; done) | (simp; omega)))]
        have := hcells j v a2
        rw [Nat.zero_add] at this
        exact this
      · subst a1 a2
        have := World.cell?_setCells_in g [Value.int .i64 x] (0 + j) w (fun kk hk => by have e0 : kk = 0 := (by simpa using hk); rw [e0, Nat.add_zero]; exact hsome j (by omega)) 0 (by simp)
        simpa using this
      · have hjn := (List.getElem?_eq_some_iff.1 a2).1
        omega
/-- Delete of one number. -/
theorem delI_any (A : Option Addr) (xs : List Int) (n c i base : Nat) (w : World) (hl : xs.length = n) (hi : i < n) (hR : EI.Row w base A xs c) (hbs : base ≤ w.heap.size) :
    Calls Try.prog 54 #[.slice A n c, .int .i64 i, .int .i64 ((i + 1 : Nat) : Int)] w fun r w' => (∃ A' c', r = .returned (.slice A' (n - 1) c') ∧ EI.Rd w' A' (xs.take i ++ xs.drop (i + 1)) ∧ (∀ b o s, A' = some ⟨b, o, s⟩ → base ≤ b)) ∧ Chg (fun y => A = some ⟨y, 0, none⟩) w w' := by
  rcases hR with ⟨e, _⟩ | ⟨h0, h1, h2⟩
  · subst e; simp at hl; omega
  rcases h2 with ⟨hv', hn'⟩ | ⟨g, c2, cur, hv', hb, hz, h3, h4, h5, h6⟩
  · injection hv' with e1 e2 e3; omega
  cases hv'
  have hk : EI.k = 1 := rfl
  have hlen : (EI.all xs).length = n := by rw [EI.all_len, hk, hl]; omega
  rw [hl, hk, Nat.mul_one] at h6
  rw [hl] at h3
  have hgs : g < w.heap.size := (Array.getElem?_eq_some_iff.1 hz).1
  have hcells : ∀ j, j < xs.length → w.cell? ⟨g, 0 + j, none⟩ = some (.int .i64 (xs.getD j 0)) := by
    intro j hj
    have e : (EI.all xs)[j]? = some (.int .i64 (xs.getD j 0)) := by
      rw [ei_all, List.getElem?_map, List.getD_eq_getElem?_getD, List.getElem?_eq_getElem hj]; rfl
    rw [← h6, List.getElem?_take] at e
    split at e
    · rw [Nat.zero_add]
      simp [World.cell?, hz]
      simpa using e
    · cases e
  have hfr : ∀ j, j < n → w.frozen? ⟨g, 0 + j, none⟩ = false := fun j _ => by simp [World.frozen?, hz]
  have q := Any.slices_Delete_int_cells LdelA g 0 n c i (i + 1) xs w (by omega) h3 h4 (by omega) (by omega) hcells hfr
  refine (show Calls Try.prog 54 #[.slice (some ⟨g, 0, none⟩) n c, .int .i64 i, .int .i64 ((i + 1 : Nat) : Int)] w _ from q).mono ?_
  rintro e w' ⟨rfl, p, rfl⟩
  have k1 := chg_cells g (((xs.take n).take i ++ (xs.take n).drop (i + 1) ++ List.replicate (i + 1 - i) 0).map (Value.int .i64)) 0 (w.drewN p)
  have hx : xs.take n = xs := List.take_of_length_le (by omega)
  rw [hx] at k1 ⊢
  have e0 : (w.drewN p).heap.size = w.heap.size := by simp
  refine ⟨⟨_, _, by rw [show i + 1 - i = 1 by omega], rd_cells (by have := k1.size; omega) (fun j v hj => ?_), fun b o s e => by cases e; exact hb⟩, ((Chg.of_below (D := fun y => y = g) (bel_drewN (Below.refl w.heap.size w) p)).trans k1 (fun y e => .inl e)).more (fun y e => .inl (by rw [e]))⟩
  have hjl := (List.getElem?_eq_some_iff.1 hj).1
  have hj2 : ((xs.take i ++ xs.drop (i + 1) ++ List.replicate (i + 1 - i) 0).map (Value.int .i64))[j]? = some v := by
    rw [List.map_append, List.getElem?_append_left hjl]
    exact hj
  have hin := World.cell?_setCells_in g ((xs.take i ++ xs.drop (i + 1) ++ List.replicate (i + 1 - i) 0).map (Value.int .i64)) 0 (w.drewN p) (fun j hj => by
    simp at hj
    have e1 : (w.drewN p).cell? ⟨g, 0 + j, none⟩ = w.cell? ⟨g, 0 + j, none⟩ := by simp
    rw [e1, hcells j (by omega)]; rfl) j (List.getElem?_eq_some_iff.1 hj2).1
  rw [Nat.zero_add] at hin
  rw [hin]
  exact (List.getElem?_eq_getElem _).symm.trans hj2
end Go.Proofs.Ytilnpeekajnlhaa
