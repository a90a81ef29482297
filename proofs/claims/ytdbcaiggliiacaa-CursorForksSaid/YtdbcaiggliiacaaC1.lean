/- A map with numbers as keys, whose elements are any values; a table of cursors. -/
import Derived.Maps.OwnSet
import Derived.Maps.Views
import Derived.Maps.RangeWalk
import Derived.MapKept
import Derived.Test.YtdbcaiggliiacaaN1
namespace Go.Proofs.Ytdbcaiggliiacaa
set_option linter.unusedSimpArgs false
open Go.RowKit Go.Maps
set_option linter.unusedVariables false
structure Chg (D : Nat → Prop) (w w' : World) : Prop where
  os : w'.os = w.os
  tape : w'.tape = w.tape
  output : w'.output = w.output
  size : w.heap.size ≤ w'.heap.size
  block : ∀ g, g < w.heap.size → ¬ D g → w'.heap[g]? = w.heap[g]?
theorem Chg.refl (D : Nat → Prop) (w : World) : Chg D w w := ⟨rfl, rfl, rfl, Nat.le_refl _, fun _ _ _ => rfl⟩
theorem Chg.of_below {D : Nat → Prop} {w w' : World} (h : Below w.heap.size w w') : Chg D w w' := ⟨h.os, h.tape, h.output, h.size, fun g hg _ => h.block g hg⟩
theorem Chg.trans {F G : Nat → Prop} {w w1 w2 : World} (h : Chg F w w1) (k : Chg G w1 w2) (hG : ∀ g, G g → F g ∨ w.heap.size ≤ g) : Chg F w w2 :=
  ⟨k.os.trans h.os, k.tape.trans h.tape, k.output.trans h.output, Nat.le_trans h.size k.size, fun g hg hn => (k.block g (Nat.lt_of_lt_of_le hg h.size) (fun e => by rcases hG g e with x | x; exact hn x; omega)).trans (h.block g hg hn)⟩
theorem Chg.more {F G : Nat → Prop} {w w' : World} (h : Chg F w w') (hG : ∀ g, F g → G g ∨ w.heap.size ≤ g) : Chg G w w' := ⟨h.os, h.tape, h.output, h.size, fun g hg hn => h.block g hg (fun e => by rcases hG g e with x | x; exact hn x; omega)⟩
theorem Chg.below {F : Nat → Prop} {w w' : World} {lo : Nat} (h : Chg F w w') (hF : ∀ g, F g → lo ≤ g) (hlo : lo ≤ w.heap.size) : Below lo w w' :=
  ⟨h.os, h.tape, h.output, h.size, fun g hg => h.block g (by omega) (fun e => by have := hF g e; omega)⟩
theorem Chg.set {D : Nat → Prop} (w : World) {l o : Nat} (v : Value) (hl : D l) : Chg D w (w.setCell ⟨l, o, none⟩ v) :=
  ⟨rfl, rfl, rfl, by simp, fun g hg hn => by
    have : l ≠ g := fun e => hn (e ▸ hl)
    simp [World.setCell, Array.getElem?_modify, this]⟩
theorem Chg.low {B : Nat} {w w' : World} (h : Below B w w') : Chg (fun g => B ≤ g) w w' := ⟨h.os, h.tape, h.output, h.size, fun g _ hn => h.block g (by omega)⟩
theorem keep_bel {w w' : World} {x : Nat} {o : Obj} (h : Below w.heap.size w w') (ho : w.heap[x]? = some o) : w'.heap[x]? = some o :=
  (h.block x (by
    rcases Nat.lt_or_ge x w.heap.size with h' | h'
    · exact h'
    · simp [Array.getElem?_eq_none h'] at ho)).trans ho
theorem keep_chg {E : Nat → Prop} {w w' : World} {x : Nat} {o : Obj} (hc : Chg E w w') (ho : w.heap[x]? = some o) (hx : ¬ E x) : w'.heap[x]? = some o :=
  (hc.block x (by
    rcases Nat.lt_or_ge x w.heap.size with h' | h'
    · exact h'
    · simp [Array.getElem?_eq_none h'] at ho) hx).trans ho

theorem alb (w : World) (o : Obj) : Below w.heap.size w (w.alloc o) := by go_grown
theorem law3 : Keyed Try.prog 3 := int_keyed Try.underlying3
/-- An element is kept as it is. -/
def hel (v : Value) : Option (DataW Value × List MemPlace) := some (.held v, [])
/-- What a map holds, as a function. -/
def MF (D : DataW Value) (S : Int → Option Value) : Prop :=
  Maps.Tidy D ∧ (∀ x, Maps.has D (.int .i64 x) = (S x).isSome) ∧ ∀ x v z, S x = some v → D.atKey (.int .i64 x) z = .held v
def upd (S : Int → Option Value) (x : Int) (v : Value) : Int → Option Value := fun y => if y = x then some v else S y
def cut (S : Int → Option Value) (x : Int) : Int → Option Value := fun y => if y = x then none else S y
theorem ikey (x : Int) : WideAt.IsKeyLit (.int .i64 x) := trivial
theorem MF.empty : MF (.map []) (fun _ => none) := ⟨Maps.tidy_empty, fun x => rfl, fun x v z h => by cases h⟩
theorem MF.put {D : DataW Value} {S : Int → Option Value} (h : MF D S) (x : Int) (v : Value) : MF (D.put (.int .i64 x) (.held v)) (upd S x v) := by
  refine ⟨h.1.put (ikey x) _, fun y => ?_, fun y u z hy => ?_⟩
  · by_cases c : y = x
    · subst c; rw [Maps.has_put_same h.1.isMap (ikey y)]; simp [upd]
    · rw [Maps.has_put_other (by simpa using c), h.2.1 y]; simp [upd, c]
  · by_cases c : y = x
    · subst c; simp [upd] at hy; subst hy; exact Maps.atKey_put_same h.1.isMap (ikey y) _ _
    · rw [Maps.atKey_put_other (by simpa using c)]
      simp [upd, c] at hy
      exact h.2.2 y u z hy
theorem MF.del {D : DataW Value} {S : Int → Option Value} (h : MF D S) (x : Int) : MF (D.del (.int .i64 x)) (cut S x) := by
  refine ⟨h.1.del _, fun y => ?_, fun y u z hy => ?_⟩
  · by_cases c : y = x
    · subst c; rw [Maps.has_del_same]; simp [cut]
    · rw [Maps.has_del_other (by simpa using c), h.2.1 y]; simp [cut, c]
  · by_cases c : y = x
    · subst c; simp [cut] at hy
    · rw [Maps.atKey_del_other (by simpa using c)]
      simp [cut, c] at hy
      exact h.2.2 y u z hy
theorem MF.congr {D : DataW Value} {S T : Int → Option Value} (h : MF D S) (e : ∀ x, S x = T x) : MF D T := by
  have : S = T := funext e
  rw [← this]; exact h
/-- Block M is a map of n entries (and there was never room for more than m) that holds what S says. -/
def OM (w : World) (M m n : Nat) (S : Int → Option Value) : Prop := ∃ D, w.ownsMap Try.prog 3 hel M m D ∧ MF D S ∧ Maps.size D = n
theorem OM.made (w : World) : OM (w.alloc (.map #[] 0)) w.heap.size 0 0 (fun _ => none) := ⟨_, World.ownsMap_made (H := Value) w Try.prog 3 hel, MF.empty, rfl⟩
theorem OM.kept {w w' : World} {M m n : Nat} {S : Int → Option Value} {row : Option Nat} (h : OM w M m n S) (hg : w.grownBy w' row) (hne : some M ≠ row) : OM w' M m n S := by
  obtain ⟨D, h1, h2⟩ := h
  exact ⟨D, h1.kept hg hne, h2⟩
theorem OM.lt {w : World} {M m n : Nat} {S : Int → Option Value} (h : OM w M m n S) : M < w.heap.size := by
  obtain ⟨D, h1, _⟩ := h
  exact h1.lt
theorem OM.heap {w w' : World} {M m n : Nat} {S : Int → Option Value} (h : OM w M m n S) (e : w'.heap[M]? = w.heap[M]?) : OM w' M m n S := by
  obtain ⟨D, ⟨es, ck, hb, F, hs, hD⟩, h2⟩ := h
  exact ⟨D, ⟨es, ck, by rw [e]; exact hb, F, hs, hD⟩, h2⟩
theorem OM.congr {w : World} {M m n : Nat} {S T : Int → Option Value} (h : OM w M m n S) (e : ∀ x, S x = T x) : OM w M m n T := by
  obtain ⟨D, h1, h2, h3⟩ := h
  exact ⟨D, h1, h2.congr e, h3⟩
def zcur : Value := .agg #[.string ⟨#[]⟩, .string ⟨#[]⟩, .bool false]
theorem zero73 (w : World) : (zeroValue 73).run Try.prog w = .ok zcur w := by kernel_rfl
theorem mkey (x : Int) (h : (Lit.int .i64 x).wf = true) : keyOf Try.prog 3 (.int .i64 x) = some (.int .i64 x) := keyOf_int_mk Try.underlying3 h
theorem MF.at {D : DataW Value} {S : Int → Option Value} (h : MF D S) {x : Int} {v : Value} (hv : D.atKey (.int .i64 x) (.held zcur) = .held v) : v = (S x).getD zcur := by
  cases hS : S x with
  | none =>
    have e := h.2.1 x
    rw [hS] at e
    rw [Maps.atKey_of_not_has e] at hv
    cases hv; rfl
  | some u =>
    have e := h.2.2 x u (.held zcur) hS
    rw [hv] at e
    cases e; rfl
/-- A look-up that asks whether the key is there. -/
theorem OM.look {w : World} {M m n : Nat} {S : Int → Option Value} (h : OM w M m n S) (x : Int) (hx : (Lit.int .i64 x).wf = true) :
    (Instr.lookup 56 (.map (some M)) (.int .i64 x) true).run Try.prog w = .ok (.tuple #[(S x).getD zcur, .bool (S x).isSome]) w := by
  obtain ⟨D, h1, h2, h3⟩ := h
  obtain ⟨v, ps, hrun, hv⟩ := h1.look_ok law3 Try.underlying56 (zero73 w) (zd := .held zcur) (zp := []) rfl (mkey x hx)
  have hv' : v = (S x).getD zcur := h2.at (by simp [hel] at hv; exact hv.1.symm)
  rw [hrun, h2.2.1, hv']
theorem OM.look1 {w : World} {M m n : Nat} {S : Int → Option Value} (h : OM w M m n S) (x : Int) (hx : (Lit.int .i64 x).wf = true) :
    (Instr.lookup 56 (.map (some M)) (.int .i64 x) false).run Try.prog w = .ok ((S x).getD zcur) w := by
  obtain ⟨D, h1, h2, h3⟩ := h
  obtain ⟨v, ps, hrun, hv⟩ := h1.lookup law3 Try.underlying56 (zero73 w) (zd := .held zcur) (zp := []) rfl (mkey x hx)
  have hv' : v = (S x).getD zcur := h2.at (by simp [hel] at hv; exact hv.1.symm)
  rw [hrun, hv']
theorem turned_chg {w w' : World} {b : Nat} (h : w.mapTurned w' b) : Chg (fun g => g = b) w w' := by
  have g := h.grown
  exact ⟨g.os, g.tape, g.output, g.size, fun i hi hn => g.block i hi (fun e => hn (by cases e; rfl))⟩
/-- A key gets another value. -/
theorem OM.store {w : World} {M m n : Nat} {S : Int → Option Value} (h : OM w M m n S) (x : Int) (hx : (Lit.int .i64 x).wf = true) (v : Value) (hm : m < maxLen) :
    ∃ w', (Instr.mapUpdate 56 (.map (some M)) (.int .i64 x) v).run Try.prog w = .ok () w' ∧ OM w' M (m + 1) (if (S x).isSome then n else n + 1) (upd S x v) ∧ w.mapTurned w' M := by
  obtain ⟨D, h1, h2, h3⟩ := h
  obtain ⟨w', hrun, r1, r2⟩ := h1.store law3 Try.underlying56 hm (mkey x hx) (d := .held v) (ps := []) rfl
  refine ⟨w', hrun, ⟨_, r1, h2.put x v, ?_⟩, r2⟩
  rw [Maps.size_put h2.1, h2.2.1, h3]
/-- A key is there no more. -/
theorem OM.drop {w : World} {M m n : Nat} {S : Int → Option Value} (h : OM w M m n S) (x : Int) (hx : (Lit.int .i64 x).wf = true) (ty : TypeId) :
    ∃ w', (Builtin.delete_ #[56, 3] ty #[.map (some M), .int .i64 x]).run Try.prog w = .ok (.tuple #[]) w' ∧ OM w' M m (if (S x).isSome then n - 1 else n) (cut S x) ∧ w.mapTurned w' M := by
  obtain ⟨D, h1, h2, h3⟩ := h
  obtain ⟨w', hrun, r1, r2⟩ := h1.drop law3 Try.underlying56 (mkey x hx) ty
  refine ⟨w', hrun, ⟨_, r1, h2.del x, ?_⟩, r2⟩
  have := Maps.size_del (k := .int .i64 x) h2.1
  rw [h2.2.1, h3] at this
  split at this <;> rename_i q <;> simp [q] <;> omega
theorem OM.len {w : World} {M m n : Nat} {S : Int → Option Value} (h : OM w M m n S) (ty : TypeId) : (Builtin.len_ #[56] ty #[.map (some M)]).run Try.prog w = .ok (.int .i64 n) w := by
  obtain ⟨D, h1, h2, h3⟩ := h
  rw [h1.len Try.underlying56 ty, h3]
end Go.Proofs.Ytdbcaiggliiacaa
