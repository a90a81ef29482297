/- Texts of the proof, one behind the other. -/
import Derived.WalkKit
import Derived.WalkSpells
import Derived.WalkLawsBesides
import Derived.Below
import Derived.Handy
import Derived.IntWalk
import Derived.Lib.Hide
import Derived.Laws.OwnMore
import Derived.Deep.AppendLies
import Derived.Maps.AppendAt
import Derived.Deep.Draws
import Derived.Deep.RegionHeld3
import Derived.Deep.RegionWith
import Derived.Deep.RegionLaw
import Derived.LoopTactic
import Derived.WalkSmall
import Derived.BigQuiet
import Derived.Deep.QuietTactic
import Derived.OrdersHeld
import Derived.KernelRfl
import Derived.Maps.Views
import Derived.Maps.OwnOps
import Derived.Laws.MakeOwn
import Derived.Laws.Rows
import Derived.Laws.Tables
import Derived.Laws.CopyOwn
import Derived.Test.YtdebedeebmmleaaGreatDoorRows
set_option linter.unusedVariables false
set_option linter.unusedSimpArgs false
namespace Go.Proofs.YtdebedeebmmleaaGreatDoor
open Go.RowKit

/-- The cells of a list lie behind a slice's address, in a block below B. -/
def Rd (w : World) (B : Nat) (A : Option Addr) (xs : List Value) : Prop :=
  xs = [] ∨ ∃ b off, A = some ⟨b, off, none⟩ ∧ b < B ∧ ∀ j u, xs[j]? = some u → w.cell? ⟨b, off + j, none⟩ = some u

theorem bel_cell {B : Nat} {w w' : World} (hb : Below B w w') {b o : Nat} (h : b < B) : w'.cell? ⟨b, o, none⟩ = w.cell? ⟨b, o, none⟩ := hb.cell (p := ⟨b, o, none⟩) h
theorem bel_later {w w' : World} (hb : Below w.heap.size w w') {b o : Nat} {v : Value} (h : w.cell? ⟨b, o, none⟩ = some v) : w'.cell? ⟨b, o, none⟩ = some v :=
  (bel_cell hb (World.block_lt_of_cell? w _ h)).trans h
theorem bel_trans {w w1 w2 : World} (h : Below w.heap.size w w1) (k : Below w1.heap.size w1 w2) : Below w.heap.size w w2 := h.trans (k.mono h.size)
theorem bel_step {B : Nat} {w w1 w2 : World} (h : Below B w w1) (k : Below w1.heap.size w1 w2) (hB : B ≤ w.heap.size) : Below B w w2 := h.trans (k.mono (Nat.le_trans hB h.size))
theorem bel_alloc {w w1 : World} (h : Below w.heap.size w w1) (o : Obj) : Below w.heap.size w (w1.alloc o) := h.alloc h.size o
theorem bel_dr {W W1 : World} (h : Below W.drew.heap.size W.drew W1) : Below W.heap.size W W1 := ((Below.refl _ _).drew).trans h
theorem bel_drewN {B : Nat} {a w : World} (h : Below B a w) (n : Nat) : Below B a (w.drewN n) := ⟨h.os, h.tape, h.output, h.size, h.block⟩
theorem bel_grown {w w' : World} (h : Below w.heap.size w w') (row : Option Nat) : w.grownBy w' row := ⟨h.os, h.tape, h.output, h.size, fun i hi _ => h.block i hi⟩
theorem own_bel {w w' : World} {base : Nat} {e : TypeId} {size n : Nat} {v : Value} {xs : List Value} (h : w.ownsRow base e size v n xs) (hb : Below w.heap.size w w') : w'.ownsRow base e size v n xs :=
  h.kept (bel_grown hb none) (by cases v.ownBlock <;> simp)
theorem Rd.nil {w : World} {B : Nat} {A : Option Addr} : Rd w B A [] := .inl rfl
theorem Rd.below {w w' : World} {B : Nat} {A : Option Addr} {xs : List Value} (h : Rd w B A xs) (hb : Below B w w') : Rd w' B A xs := by
  rcases h with h | ⟨b, off, hA, hlt, hc⟩
  · exact .inl h
  · exact .inr ⟨b, off, hA, hlt, fun j u hj => (bel_cell hb hlt).trans (hc j u hj)⟩
theorem Rd.more {w : World} {B B' : Nat} {A : Option Addr} {xs : List Value} (h : Rd w B A xs) (hB : B ≤ B') : Rd w B' A xs := by
  rcases h with h | ⟨b, off, hA, hlt, hc⟩
  · exact .inl h
  · exact .inr ⟨b, off, hA, by omega, hc⟩
theorem Rd.later {w w' : World} {A : Option Addr} {xs : List Value} (h : Rd w w.heap.size A xs) (hb : Below w.heap.size w w') : Rd w' w'.heap.size A xs := (h.below hb).more hb.size
theorem Rd.get {w : World} {B : Nat} {A : Option Addr} {xs : List Value} (h : Rd w B A xs) {k : Nat} {u : Value} (hk : xs[k]? = some u) : ∃ b off, A = some ⟨b, off, none⟩ ∧ b < B ∧ w.cell? ⟨b, off + k, none⟩ = some u := by
  rcases h with rfl | ⟨b, off, hA, hlt, hc⟩
  · simp at hk
  · exact ⟨b, off, hA, hlt, hc k u hk⟩
theorem Rd.of_own {w : World} {base : Nat} {e : TypeId} {size n c : Nat} {A : Option Addr} {xs : List Value} (h : w.ownsRow base e size (.slice A n c) n xs) (hs : 0 < size) : Rd w w.heap.size A xs := by
  by_cases hn : 0 < n
  · obtain ⟨g, cap, hv, _, hlt⟩ := h.form hn
    obtain rfl : A = some ⟨g, 0, none⟩ := by injection hv
    refine .inr ⟨g, 0, rfl, hlt, fun j u hj => ?_⟩
    have := h.cells (g := g) rfl j u hj
    by_cases z : j = 0
    · subst z; simpa [Addr.add] using this
    · simpa [Addr.add, z] using this
  · refine .inl (List.eq_nil_of_length_eq_zero ?_)
    rw [h.1]; have : n = 0 := by omega
    rw [this, Nat.zero_mul]

theorem bytes_inj {a b : ByteArray} (h : a.toList = b.toList) : a = b := by
  rw [ByteArray.toList_eq, ByteArray.toList_eq] at h
  exact ByteArray.ext (Array.toList_inj.1 h)
theorem bytes_ne {a b : ByteArray} (h : a ≠ b) : (a.toList == b.toList) = false := by
  rw [beq_eq_false_iff_ne]; exact fun e => h (bytes_inj e)
theorem bytes_eq {a b : ByteArray} (h : a = b) : (a.toList == b.toList) = true := by subst h; simp
end Go.Proofs.YtdebedeebmmleaaGreatDoor
namespace Go.Proofs.YtdebedeebmmleaaGreatDoor
theorem wT {P : Program} {md : Region.Mode} {ops : Array Oper} {Q : Exit → Act → World → Prop} {S : World → Prop} {i : Nat} {oi : Oper} {v : Value} {fuel : Nat} {listed : Array Bool} {a : Act} {w : World} (hi : ops[i]? = some oi) (hy : YieldsIf P ops S oi v a) (hS : S w) (h : wpAnyH P md ops Q S fuel (listed.setIfInBounds i true) (a.put oi.dst v) w)
    (hs : Region.noSelect ops = true := by kernel_rfl) (hf : Region.free md ops listed i = true := by kernel_rfl) (hr : (Region.ready md ops listed).contains i = true := by kernel_rfl) (hQ : ∀ c a w, Q (.panic c) (a.put oi.dst v) w → Q (.panic c) a w := by exact fun _ _ _ h => h) : wpAnyH P md ops Q S (fuel + 1) listed a w := wpAnyH_take hi hs hf hr hQ hy hS h
theorem pu (a : Act) (d : Tmp) (v : Value) : a.put (some d) v = { a with tmps := a.tmps.setIfInBounds d v } := rfl
theorem pn (a : Act) (v : Value) : a.put none v = a := rfl
theorem s1 {α : Type} (l : List α) (i : Nat) (a : α) : l.toArray.setIfInBounds i a = (l.set i a).toArray := List.setIfInBounds_toArray l i a
theorem s2 {α : Type} (a b : α) (l : List α) : (a :: l).set 0 b = b :: l := rfl
theorem s3 {α : Type} (a b : α) (l : List α) (n : Nat) : (a :: l).set (n + 1) b = a :: l.set n b := rfl
end Go.Proofs.YtdebedeebmmleaaGreatDoor
namespace Go.Proofs.YtdebedeebmmleaaGreatDoor
open Go.RowKit Go.Maps
/-- How elements lie in cells: the slice's type, the element's, how many cells and bytes. -/
structure RE (α : Type) where
  st : TypeId
  et : TypeId
  k : Nat
  by_ : Nat
  z : Value
  cs : α → List Value
  kpos : 0 < k
  len : ∀ x, (cs x).length = k
  one : ∀ x, ∀ u ∈ cs x, u.oneCell' = true
  und : Tryz.prog.underlying st = some (.slice et)
  info : (Tryz.prog.info? et).map (fun i => (i.zero, i.size, i.bytes)) = some (some z, k, by_)
  zk : z.cells.size = k
  bmax : by_ ≤ 10000000
namespace RE
variable {α : Type} (E : RE α)
def all (xs : List α) : List Value := xs.flatMap E.cs
theorem all_app (xs ys : List α) : E.all (xs ++ ys) = E.all xs ++ E.all ys := by simp [all]
theorem all_cons (x : α) (xs : List α) : E.all (x :: xs) = E.cs x ++ E.all xs := rfl
theorem all_len (xs : List α) : (E.all xs).length = xs.length * E.k := by
  induction xs with
  | nil => simp [all]
  | cons x xs ih => rw [all_cons, List.length_append, E.len, ih, List.length_cons, Nat.succ_mul, Nat.add_comm]
theorem all_drop (xs : List α) (i : Nat) : E.all (xs.drop i) = (E.all xs).drop (i * E.k) := by
  induction xs generalizing i with
  | nil => simp [all]
  | cons x xs ih =>
    cases i with
    | zero => simp
    | succ i =>
      have e : (E.cs x).drop (i * E.k + E.k) = [] := List.drop_eq_nil_of_le (by rw [E.len]; omega)
      rw [List.drop_succ_cons, ih, all_cons, Nat.succ_mul, List.drop_append, e, E.len]
      simp
theorem all_take (xs : List α) (i : Nat) : E.all (xs.take i) = (E.all xs).take (i * E.k) := by
  induction xs generalizing i with
  | nil => simp [all]
  | cons x xs ih =>
    cases i with
    | zero => simp [all]
    | succ i =>
      rw [List.take_succ_cons, all_cons, ih, all_cons, Nat.succ_mul, List.take_append, E.len, Nat.add_sub_cancel, List.take_of_length_le (l := E.cs x) (by rw [E.len]; omega)]
theorem all_get {xs : List α} {i : Nat} {x : α} (h : xs[i]? = some x) {j : Nat} {u : Value} (hu : (E.cs x)[j]? = some u) : (E.all xs)[i * E.k + j]? = some u := by
  induction xs generalizing i with
  | nil => simp at h
  | cons y ys ih =>
    rw [all_cons]
    cases i with
    | zero =>
      simp at h; subst h
      rw [Nat.zero_mul, Nat.zero_add, List.getElem?_append_left (List.getElem?_eq_some_iff.1 hu).1]; exact hu
    | succ i =>
      rw [Nat.succ_mul, List.getElem?_append_right (by rw [E.len]; omega), E.len, show i * E.k + E.k + j - E.k = i * E.k + j by omega]
      exact ih (by simpa using h)
theorem one_all (l : List α) : ∀ u ∈ E.all l, u.oneCell' = true := by
  intro u hu
  obtain ⟨x, _, hx⟩ := List.mem_flatMap.1 hu
  exact E.one x u hx
theorem all_empty {l : List α} (h : E.all l = []) : l = [] := by
  have q : l.length * E.k = 0 := by rw [← E.all_len, h]; rfl
  have hk := E.kpos
  rcases Nat.mul_eq_zero.1 q with q | q
  · exact List.eq_nil_of_length_eq_zero q
  · omega
/-- Elements behind a slice's address. -/
def Rd (w : World) (A : Option Addr) (xs : List α) : Prop := Go.Proofs.YtdebedeebmmleaaGreatDoor.Rd w w.heap.size A (E.all xs)
variable {E}
theorem Rd.nil {w : World} {A : Option Addr} : E.Rd w A [] := .inl rfl
theorem Rd.get {w : World} {A : Option Addr} {xs : List α} (h : E.Rd w A xs) {i : Nat} {x : α} (hi : xs[i]? = some x) : ∃ b off, A = some ⟨b, off, none⟩ ∧ b < w.heap.size ∧ ∀ j u, (E.cs x)[j]? = some u → w.cell? ⟨b, off + i * E.k + j, none⟩ = some u := by
  rcases h with h | ⟨b, off, e, hlt, hc⟩
  · rw [E.all_empty h] at hi; simp at hi
  · exact ⟨b, off, e, hlt, fun j u hu => by rw [Nat.add_assoc]; exact hc _ u (E.all_get hi hu)⟩
theorem Rd.at {w : World} {b off : Nat} {xs : List α} (h : E.Rd w (some ⟨b, off, none⟩) xs) {i : Nat} {x : α} (hi : xs[i]? = some x) : b < w.heap.size ∧ ∀ j u, (E.cs x)[j]? = some u → w.cell? ⟨b, off + i * E.k + j, none⟩ = some u := by
  obtain ⟨b', off', e, h1, h2⟩ := h.get hi
  cases e
  exact ⟨h1, h2⟩
theorem Rd.news {w : World} {b off : Nat} {l : List α} (h : E.Rd w (some ⟨b, off, none⟩) l) : ∀ j u, (E.all l)[j]? = some u → w.cell? ((⟨b, off, none⟩ : Addr).add j) = some u := by
  intro j u hu
  rcases h with h | ⟨b', off', e, hlt, hc⟩
  · rw [h] at hu; simp at hu
  · cases e
    have hadd : (⟨b, off, none⟩ : Addr).add j = ⟨b, off + j, none⟩ := by unfold Addr.add; split <;> simp_all
    rw [hadd]; exact hc j u hu
theorem Rd.take {w : World} {A : Option Addr} {l : List α} (h : E.Rd w A l) (n : Nat) : E.Rd w A (l.take n) := by
  rcases h with h | ⟨b, off, e, hlt, hc⟩
  · left; rw [E.all_empty h]; simp [all]
  · refine .inr ⟨b, off, e, hlt, fun j u hj => hc j u ?_⟩
    rw [all_take, List.getElem?_take] at hj
    split at hj
    · exact hj
    · simp at hj
theorem Rd.drop {w : World} {b off : Nat} {l : List α} (h : E.Rd w (some ⟨b, off, none⟩) l) (i : Nat) : E.Rd w (some ⟨b, off + i * E.k, none⟩) (l.drop i) := by
  rcases h with h | ⟨b', off', e, hlt, hc⟩
  · left; rw [E.all_empty h]; simp [all]
  · cases e
    refine .inr ⟨b, off + i * E.k, rfl, hlt, fun j u hj => ?_⟩
    rw [all_drop, List.getElem?_drop] at hj
    rw [Nat.add_assoc]; exact hc _ u hj
theorem Rd.add {w : World} {a : Addr} {l : List α} (h : E.Rd w (some a) l) (i : Nat) : E.Rd w (some (a.add (i * E.k))) (l.drop i) := by
  rcases h with h | ⟨b', off', e, hlt, hc⟩
  · left; rw [E.all_empty h]; simp [all]
  · cases e
    have hadd : (⟨b', off', none⟩ : Addr).add (i * E.k) = ⟨b', off' + i * E.k, none⟩ := by unfold Addr.add; split <;> simp_all
    rw [hadd]
    exact Rd.drop (.inr ⟨b', off', rfl, hlt, hc⟩) i
theorem Rd.later {w w' : World} {A : Option Addr} {l : List α} (h : E.Rd w A l) (hb : Below w.heap.size w w') : E.Rd w' A l := Go.Proofs.YtdebedeebmmleaaGreatDoor.Rd.later h hb
theorem Rd.kept {w w' : World} {row : Option Nat} {b off : Nat} {l : List α} (h : E.Rd w (some ⟨b, off, none⟩) l) (hg : w.grownBy w' row) (hne : some b ≠ row) : E.Rd w' (some ⟨b, off, none⟩) l := by
  rcases h with h | ⟨b', off', e, hlt, hc⟩
  · exact .inl h
  · cases e
    exact .inr ⟨b, off, rfl, Nat.lt_of_lt_of_le hlt hg.size, fun j u hj => hg.cell (hc j u hj) hne⟩
/-- A literal row in a block of its own. -/
theorem Rd.lit (w : World) (t : TypeId) (l : List α) (vs : Array Value) (hv : vs.toList = E.all l) : E.Rd (w.alloc (.cells vs t)) (some ⟨w.heap.size, 0, none⟩) l := by
  refine .inr ⟨w.heap.size, 0, rfl, by simp, fun j u hj => ?_⟩
  have := World.news_of_block (w := w.alloc (.cells vs t)) (B := w.heap.size) (cs := vs) (t := t) (fr := (0, 0)) (heap_alloc_new w _) j u (by rw [← hv] at hj; simpa using hj)
  have hadd : (⟨w.heap.size, 0, none⟩ : Addr).add j = ⟨w.heap.size, 0 + j, none⟩ := by unfold Addr.add; split <;> simp_all
  rw [hadd] at this; exact this
variable (E)
theorem parts : ∃ i, Tryz.prog.info? E.et = some i ∧ i.zero = some E.z ∧ i.size = E.k ∧ i.bytes = E.by_ := by
  have h := E.info
  cases hi : Tryz.prog.info? E.et with
  | none => rw [hi] at h; simp at h
  | some i => rw [hi] at h; simp at h; exact ⟨i, rfl, h.1, h.2.1, h.2.2⟩
theorem cap_of {w : World} {base n c size : Nat} {e : TypeId} {A : Option Addr} {xs : List Value} (h : w.ownsRow base e size (.slice A n c) n xs) (hn : 0 < n) : n ≤ c ∧ c ≤ maxLen := by
  rcases h.2 with ⟨hv, h0⟩ | ⟨g, cap, cur, hv, _, _, h1, h2, _⟩
  · omega
  · cases hv; exact ⟨h1, h2⟩
/-- Elements in memory of their own, or an empty row that has no room. -/
def Row (w : World) (base : Nat) (A : Option Addr) (l : List α) (c : Nat) : Prop :=
  (l = [] ∧ c = 0) ∨ (0 < c ∧ w.ownsRow base E.et E.k (.slice A l.length c) l.length (E.all l))
/-- The block that a row may write. -/
def fp (A : Option Addr) (c : Nat) : Option Nat := if c = 0 then none else A.map (·.block)
variable {E}
theorem Row.rd {w : World} {base : Nat} {A : Option Addr} {l : List α} {c : Nat} (h : E.Row w base A l c) : E.Rd w A l := by
  rcases h with ⟨h, _⟩ | ⟨_, h⟩
  · subst h; exact .inl rfl
  · exact Go.Proofs.YtdebedeebmmleaaGreatDoor.Rd.of_own h E.kpos
theorem Row.cap {w : World} {base : Nat} {A : Option Addr} {l : List α} {c : Nat} (h : E.Row w base A l c) : l.length ≤ c ∧ c ≤ maxLen := by
  rcases h with ⟨h, h2⟩ | ⟨h0, h⟩
  · subst h h2; exact ⟨Nat.le_refl _, Nat.zero_le _⟩
  · rcases h.2 with ⟨hv, hn⟩ | ⟨g, cap, cur, hv, _, _, h1, h2, _⟩
    · injection hv with e1 e2 e3; omega
    · cases hv; exact ⟨h1, h2⟩
theorem Row.kept {w w' : World} {base : Nat} {A : Option Addr} {l : List α} {c : Nat} {row : Option Nat} (h : E.Row w base A l c) (hg : w.grownBy w' row) (hne : fp A c = none ∨ fp A c ≠ row) : E.Row w' base A l c := by
  rcases h with h | ⟨h0, h⟩
  · exact .inl h
  · refine .inr ⟨h0, h.kept hg ?_⟩
    have hc : ¬ c = 0 := by omega
    cases A with
    | none => left; rfl
    | some a => right; rcases hne with hne | hne <;> simp [fp, hc] at hne; simpa [Value.ownBlock] using hne
theorem Row.later {w w' : World} {base : Nat} {A : Option Addr} {l : List α} {c : Nat} (h : E.Row w base A l c) (hb : Below w.heap.size w w') : E.Row w' base A l c := by
  rcases h with h | ⟨h0, h⟩
  · exact .inl h
  · exact .inr ⟨h0, own_bel h hb⟩
theorem Row.fp_lt {w : World} {base : Nat} {A : Option Addr} {l : List α} {c g : Nat} (h : E.Row w base A l c) (hf : fp A c = some g) : base ≤ g ∧ g < w.heap.size := by
  rcases h with ⟨_, h⟩ | ⟨h0, h⟩
  · subst h; simp [fp] at hf
  · have hc : ¬ c = 0 := by omega
    cases A with
    | none => simp [fp, hc] at hf
    | some a => simp [fp, hc] at hf; exact h.lt g (by rw [← hf]; rfl)
theorem Row.base {w : World} {base b2 : Nat} {A : Option Addr} {l : List α} {c : Nat} (h : E.Row w base A l c) (hb : b2 ≤ base) : E.Row w b2 A l c := by
  rcases h with h | ⟨h0, h⟩
  · exact .inl h
  · refine .inr ⟨h0, ?_⟩
    rcases h with ⟨h1, h2 | ⟨g, cap, cur, e1, e2, e3⟩⟩
    · exact ⟨h1, .inl h2⟩
    · exact ⟨h1, .inr ⟨g, cap, cur, e1, Nat.le_trans hb e2, e3⟩⟩
theorem Row.nil {w : World} {base : Nat} {A : Option Addr} : E.Row w base A [] 0 := .inl ⟨rfl, rfl⟩
theorem heap_old (w : World) (o : Obj) (i : Nat) (h : i < w.heap.size) : (w.alloc o).heap[i]? = w.heap[i]? := by
  show (w.heap.push o)[i]? = _
  rw [Array.getElem?_push, if_neg (by omega)]
variable (E)
theorem put_nothing (A0 A : Option Addr) (n0 c0 c : Nat) (hle : n0 ≤ c0) (ty : TypeId) (w : World) : (Builtin.append_ #[E.st, E.st] ty #[.slice A0 n0 c0, .slice A 0 c]).run Tryz.prog w = .ok (.slice A0 (n0 + 0) c0) w := by
  obtain ⟨i0, hI0, hI1, hI2, hI3⟩ := E.parts
  have hf : ∀ a : Addr, (Builtin.firstCells i0.size 0 (.slice (some a) 0 c)).run Tryz.prog w = .ok #[] w := fun a => run_firstCells_some (P := Tryz.prog) w i0.size 0 a 0 c [] (by simp) (fun j v hv => by simp at hv)
  have hg : (Builtin.firstCells i0.size 0 (.slice none 0 c)).run Tryz.prog w = .ok #[] w := run_firstCells_none w i0.size 0 0 c
  cases A with
  | none => cases A0 <;> simp [Builtin.append_, run_underlying E.und, sizeOf, typeInfo, hI0, Builtin.lenOf, storeCells, hle, hg]
  | some a => cases A0 <;> simp [Builtin.append_, run_underlying E.und, sizeOf, typeInfo, hI0, Builtin.lenOf, storeCells, hle, hf a]
variable {E}
/-- Elements are put behind elements. -/
theorem Row.put {w : World} {base : Nat} {A0 : Option Addr} {c0 : Nat} {l0 : List α} (h : E.Row w base A0 l0 c0) (hn : l0.length ≤ 1000000) (hb : base ≤ w.heap.size) (A : Option Addr) (c : Nat) (l : List α) (hm : l.length ≤ 1000000) (hr : E.Rd w A l) (ty : TypeId) :
    ∃ A' c' w', (Builtin.append_ #[E.st, E.st] ty #[.slice A0 l0.length c0, .slice A l.length c]).run Tryz.prog w = .ok (.slice A' (l0.length + l.length) c') w' ∧ E.Row w' base A' (l0 ++ l) c' ∧ w.grownBy w' (fp A0 c0) ∧ (fp A' c' = none ∨ fp A' c' = fp A0 c0 ∨ fp A' c' = some w.heap.size) := by
  obtain ⟨i0, hI0, hI1, hI2, hI3⟩ := E.parts
  have hbm := E.bmax
  have hb1 : (l0.length + l.length) * E.by_ ≤ 140737488355328 := Nat.le_trans (Nat.mul_le_mul (show l0.length + l.length ≤ 2000000 by omega) hbm) (by decide)
  have hb2 : l.length * E.by_ ≤ 140737488355328 := Nat.le_trans (Nat.mul_le_mul_right _ (by omega)) hb1
  by_cases hl : l = []
  · subst hl
    refine ⟨A0, c0, w, E.put_nothing A0 A l0.length c0 c h.cap.1 ty w, by rw [List.append_nil]; exact h, ⟨rfl, rfl, rfl, Nat.le_refl _, fun _ _ _ => rfl⟩, .inr (.inl rfl)⟩
  · have hlp : 0 < l.length := List.length_pos_iff.2 hl
    rcases hr with hr | ⟨b, off, rfl, hlt, hc⟩
    · exact absurd (E.all_empty hr) hl
    · have hnews := Rd.news (.inr ⟨b, off, rfl, hlt, hc⟩ : E.Rd w (some ⟨b, off, none⟩) l)
      rcases h with ⟨rfl, rfl⟩ | ⟨h0, h⟩
      · have hcap := grownCap_le_maxLen w l.length 0 E.et (by unfold maxLen; omega)
        have hge := grownCap_ge w l.length 0 E.et
        have hrun : (Builtin.append_ #[E.st, E.st] ty #[.slice A0 0 0, .slice (some ⟨b, off, none⟩) l.length c]).run Tryz.prog w =
            .ok (.slice (some ⟨w.heap.size, 0, none⟩) l.length (grownCap w l.length 0 E.et)) (w.drew.alloc (.cells ((E.all l).toArray ++ Builtin.zeroCells E.z.cells (grownCap w l.length 0 E.et - l.length)) E.et)) := by
          cases A0 with
          | none => exact run_append_nil (P := Tryz.prog) w E.st ty E.et i0 E.z E.und hI0 hI1 ⟨b, off, none⟩ l.length c (E.all l) (by rw [all_len, hI2]) hnews hlp (by omega) (by rw [hI3]; omega)
          | some a =>
            have h := run_append_grow (P := Tryz.prog) w E.st ty E.et i0 E.z E.und hI0 hI1 a 0 0 [] (by simp) (fun j v hv => by simp at hv) ⟨b, off, none⟩ l.length c (E.all l) (by rw [all_len, hI2]) hnews (by omega) (by omega) (by rw [Nat.zero_add, nextslicecap_zero hlp, hI3]; omega)
            simpa using h
        refine ⟨some ⟨w.heap.size, 0, none⟩, grownCap w l.length 0 E.et, _, by simpa using hrun, .inr ⟨by omega, ?_⟩, ?_, ?_⟩
        · refine ⟨by simp [all_len], .inr ⟨w.heap.size, _, _, rfl, hb, heap_alloc_new w.drew _, by simpa using hge, hcap, ?_, ?_⟩⟩
          · rw [Array.size_append, size_zeroCells, E.zk, List.size_toArray, all_len, ← Nat.add_mul, show l.length + (grownCap w l.length 0 E.et - l.length) = grownCap w l.length 0 E.et by omega]
          · have e := List.take_left' (l₂ := (Builtin.zeroCells E.z.cells (grownCap w l.length 0 E.et - l.length)).toList) (E.all_len l)
            simpa using e
        · exact ⟨rfl, rfl, rfl, by simp, fun i hi _ => heap_old w.drew _ i hi⟩
        · right; right
          have : ¬ grownCap w l.length 0 E.et = 0 := by omega
          simp [fp, this]
      · have hc0 : ¬ c0 = 0 := by omega
        have hfp : (Value.slice A0 l0.length c0).ownBlock = fp A0 c0 := by cases A0 <;> simp [fp, hc0, Value.ownBlock]
        obtain ⟨v', w', hrun, r1, r2, _, r3⟩ := run_append_own_at (P := Tryz.prog) w base E.st ty E.et i0 E.z E.k E.by_ E.und hI0 hI1 hI2 hI3 E.zk E.kpos _ l0.length (E.all l0) h ⟨b, off, none⟩ l.length c (E.all l) (E.all_len l) hnews (E.one_all l) (by unfold maxLen; omega) hb1 hb
        obtain ⟨g, c', rfl, _, _⟩ := r1.form (by omega)
        have hc' : 0 < c' := by have := (cap_of r1 (by omega)).1; omega
        have hc'' : ¬ c' = 0 := by omega
        refine ⟨some ⟨g, 0, none⟩, c', w', hrun, .inr ⟨hc', by rw [List.length_append, all_app]; exact r1⟩, by rw [← hfp]; exact r2, .inr ?_⟩
        rcases r3 with r3 | r3
        · left; rw [← hfp, ← r3]; simp [fp, hc'', Value.ownBlock]
        · right; simpa [fp, hc'', Value.ownBlock] using r3
theorem wpList_put (E : RE α) (w : World) {ops : Array Oper} {rest : List Oper} {o : Oper} {a : Act} {Q : Exit → Act → World → Prop} (hg : o.guard = none) (s x : Operand)
    (hop : o.op = Op.call { callee := Callee.builtin Builtin.append, args := #[s, x], argTypes := #[E.st, E.st] }) {base : Nat} (A0 : Option Addr) (n0 c0 : Nat) (l0 : List α) (A : Option Addr) (m c : Nat) (l : List α) (hs : a.eval s = .slice A0 n0 c0) (hx : a.eval x = .slice A m c)
    (h : E.Row w base A0 l0 c0) (hn0 : l0.length = n0) (hn : n0 ≤ 1000000) (hb : base ≤ w.heap.size) (hl : l.length = m) (hm : m ≤ 1000000) (hr : E.Rd w A l)
    (hK : ∀ A' c' w', E.Row w' base A' (l0 ++ l) c' → w.grownBy w' (fp A0 c0) → (fp A' c' = none ∨ fp A' c' = fp A0 c0 ∨ fp A' c' = some w.heap.size) → wpList Tryz.prog ops Q rest (a.put o.dst (.slice A' (n0 + m) c')) w') :
    wpList Tryz.prog ops Q (o :: rest) a w := by
  subst hn0 hl
  refine wpList_plain hg fun K' hK' => ?_
  obtain ⟨A', c', w', hrun, r1, r2, r3⟩ := h.put hn hb A c l hm hr o.type
  unfold Oper.wp
  simp [execOp, hop, resolve, invoke, builtin, hs, hx, hrun, Result.andThen]
  exact hK' _ _ (hK A' c' w' r1 r2 r3)
theorem step_put (E : RE α) (w : World) {ops : Array Oper} {o : Oper} {a : Act} {K : Act → World → Prop} {Q : Exit → Act → World → Prop} {X : Prop} (hg : o.guard = none) (s x : Operand)
    (hop : o.op = Op.call { callee := Callee.builtin Builtin.append, args := #[s, x], argTypes := #[E.st, E.st] }) {base : Nat} (A0 : Option Addr) (n0 c0 : Nat) (l0 : List α) (A : Option Addr) (m c : Nat) (l : List α) (hs : a.eval s = .slice A0 n0 c0) (hx : a.eval x = .slice A m c)
    (h : E.Row w base A0 l0 c0) (hn0 : l0.length = n0) (hn : n0 ≤ 1000000) (hb : base ≤ w.heap.size) (hl : l.length = m) (hm : m ≤ 1000000) (hr : E.Rd w A l)
    (hK : ∀ A' c' w', E.Row w' base A' (l0 ++ l) c' → w.grownBy w' (fp A0 c0) → (fp A' c' = none ∨ fp A' c' = fp A0 c0 ∨ fp A' c' = some w.heap.size) → K (a.put o.dst (.slice A' (n0 + m) c')) w') :
    if Region.wanted o (yielded ops a.tmps) = true then Oper.wp Tryz.prog o a w K Q else X := by
  have hw : Region.wanted o (yielded ops a.tmps) = true := by simp [Region.wanted, hg]
  rw [if_pos hw]
  subst hn0 hl
  obtain ⟨A', c', w', hrun, r1, r2, r3⟩ := h.put hn hb A c l hm hr o.type
  unfold Oper.wp
  simp [execOp, hop, resolve, invoke, builtin, hs, hx, hrun, Result.andThen]
  exact hK A' c' w' r1 r2 r3
/-- What a row's writer leaves below its own base. -/
theorem Row.below {w w' W : World} {base lo : Nat} {A : Option Addr} {l : List α} {c : Nat} (hg : w.grownBy w' (fp A c)) (h : E.Row W base A l c) (hlo : lo ≤ base) (h2 : lo ≤ w.heap.size) : Below lo w w' :=
  ⟨hg.os, hg.tape, hg.output, hg.size, fun g hlt => hg.block g (by omega) (fun e => by have := (h.fp_lt e.symm).1; omega)⟩
end RE
end Go.Proofs.YtdebedeebmmleaaGreatDoor
