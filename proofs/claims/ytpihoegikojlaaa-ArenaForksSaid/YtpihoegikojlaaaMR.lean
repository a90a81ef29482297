/- Both arenas in memory, and blocks that the program's keeps and nobody writes. -/
import Derived.Test.YtpihoegikojlaaaM2
namespace Go.Proofs.Ytpihoegikojlaaa
set_option linter.unusedSimpArgs false
open Go.RowKit Go.Maps
set_option linter.unusedVariables false
variable {F : Nat → Prop}
/-- The program's arena says b, the document's b'; no block of K is the arena's, or the document's row's. -/
def SR (lo N : Nat) (K R : Nat → Prop) (b b' : AB) (w : World) (cs : Array Value) : Prop :=
  ∃ (A G : Option Addr) (c d : Nat), PA w lo N A G c d b ∧ RBk (FK N A G d K) w cs b' ∧ IV b ∧ IV b' ∧ ∀ g, K g ∨ R g → g < w.heap.size ∧ ¬ FA N A G d g
section
variable {lo N : Nat} {K R : Nat → Prop} {b b' : AB} {w : World} {cs : Array Value}
theorem SR.later {w' : World} (h : SR lo N K R b b' w cs) (hb : Below w.heap.size w w') : SR lo N K R b b' w' cs := by
  obtain ⟨A, G, c, d, h1, h2, h3, h4, hK⟩ := h
  exact ⟨A, G, c, d, h1.later hb, h2.later hb, h3, h4, fun g hg => ⟨Nat.lt_of_lt_of_le (hK g hg).1 hb.size, (hK g hg).2⟩⟩
theorem SR.wide {w' : World} (h : SR lo N K R b b' w cs) (hb : Below w.heap.size w w') (K' : Nat → Prop) (hK' : ∀ g, K' g → K g ∨ (w.heap.size ≤ g ∧ g < w'.heap.size)) : SR lo N K' R b b' w' cs := by
  obtain ⟨A, G, c, d, h1, h2, h3, h4, hK⟩ := h
  refine ⟨A, G, c, d, h1.later hb, h2.chg (Chg.of_below hb) ?_, h3, h4, fun g hg => ?_⟩
  · rintro g (e | e)
    · exact .inl (.inl e)
    · rcases hK' g e with h | h
      · exact .inl (.inr h)
      · exact .inr h.1
  · rcases hg with hg | hg
    · rcases hK' g hg with h | h
      · exact ⟨Nat.lt_of_lt_of_le (hK g (.inl h)).1 hb.size, (hK g (.inl h)).2⟩
      · exact ⟨h.2, fun hf => by have := h1.fin g hf; omega⟩
    · exact ⟨Nat.lt_of_lt_of_le (hK g (.inr hg)).1 hb.size, (hK g (.inr hg)).2⟩
theorem SR.apart {w' : World} {g : Nat} (h : SR lo N K R b b' w cs) (hg : w.grownBy w' (some g)) (hKg : K g) : SR lo N K R b b' w' cs := by
  obtain ⟨A, G, c, d, h1, h2, h3, h4, hK⟩ := h
  have hc : Chg (fun x => x = g) w w' := Chg.of_grown hg (fun x hx => by cases hx; rfl)
  exact ⟨A, G, c, d, h1.far hc (fun x hx => by rw [hx]; exact (hK g (.inl hKg)).2), h2.chg (hc.more (fun x hx => .inl (by rw [hx]; exact .inr hKg))) (fun g hg => .inl hg), h3, h4, fun x hx => ⟨Nat.lt_of_lt_of_le (hK x hx).1 hg.size, (hK x hx).2⟩⟩
theorem SR.less {K' : Nat → Prop} (h : SR lo N K R b b' w cs) (hK' : ∀ g, K' g → K g) : SR lo N K' R b b' w cs :=
  h.wide (Below.refl _ _) K' (fun g hg => .inl (hK' g hg))
theorem SR.size (h : SR lo N K R b b' w cs) : cs.size = 131 := by
  obtain ⟨A, G, c, d, h1, h2, h3, h4, hK⟩ := h
  exact h2.size
theorem SR.one (h : SR lo N K R b b' w cs) : cs.all (·.oneCell') = true := by
  obtain ⟨A, G, c, d, h1, h2, h3, h4, hK⟩ := h
  exact h2.one
theorem SR.kept (h : SR lo N K R b b' w cs) : ∀ g, K g ∨ R g → g < w.heap.size := by
  obtain ⟨A, G, c, d, h1, h2, h3, h4, hK⟩ := h
  exact fun g hg => (hK g hg).1
theorem SR.iv (h : SR lo N K R b b' w cs) : IV b ∧ IV b' := by
  obtain ⟨A, G, c, d, h1, h2, h3, h4, hK⟩ := h
  exact ⟨h3, h4⟩
theorem SR.cells (h : SR lo N K R b b' w cs) : cs[0]? = some (.int .i64 b'.most) ∧ cs[1]? = some (.int .i64 b'.top) ∧ (∀ i, i < 64 → cs[2 + i]? = some (.bool (b'.tk i))) ∧ ∀ i, i < 64 → cs[66 + i]? = some (.int .i64 (b'.vl i)) := by
  obtain ⟨A, G, c, d, h1, h2, h3, h4, hK⟩ := h
  exact ⟨h2.c0, h2.c1, h2.ct, h2.cv⟩
theorem fkFR {A G : Option Addr} {c d : Nat} (h1 : PA w lo N A G c d b) (hK : ∀ g, K g ∨ R g → g < w.heap.size ∧ ¬ FA N A G d g) : Hid (∀ g, FK N A G d K g → g < w.heap.size) := Lib.hid (by
  rintro g (e | e)
  · exact h1.fin g e
  · exact (hK g (.inl e)).1)
-- what the document's functions do
def DPostR (lo N : Nat) (K R : Nat → Prop) (b b' : AB) (v : Int) (w : World) (e : Ending) (w' : World) : Prop := ∃ cs', e = .returned (.tuple #[.agg cs', .int .i64 v]) ∧ SR lo N K R b b' w' cs' ∧ Below w.heap.size w w'
def DTPostR (lo N : Nat) (K R : Nat → Prop) (b b' : AB) (i v : Int) (w : World) (e : Ending) (w' : World) : Prop := ∃ cs', e = .returned (.tuple #[.agg cs', .int .i64 i, .int .i64 v]) ∧ SR lo N K R b b' w' cs' ∧ Below w.heap.size w w'
def DLPostR (lo N : Nat) (K R : Nat → Prop) (b b' : AB) (l : List Int) (v : Int) (w : World) (e : Ending) (w' : World) : Prop := ∃ cs' L n k, e = .returned (.tuple #[.agg cs', .slice L n k, .int .i64 v]) ∧ l.length = n ∧ RdI w' L l ∧ SR lo N K R b b' w' cs' ∧ Below w.heap.size w w'
theorem dr_take (h : SR lo N K R b b' w cs) (v : Int) : Calls Try.prog 23 #[.agg cs, .int .i64 v] w (DTPostR lo N K R b (takeA b' v) (takeI b') (takeE b') w) := by
  obtain ⟨A, G, c, d, h1, h2, h3, h4, hK⟩ := h
  refine (dtake_any v h2 h4 (fkFR h1 hK)).mono ?_
  rintro e w' ⟨cs', rfl, h5, h6⟩
  exact ⟨cs', rfl, ⟨A, G, c, d, h1.later h6, h5, h3, h4.take v, fun g hg => ⟨Nat.lt_of_lt_of_le (hK g hg).1 h6.size, (hK g hg).2⟩⟩, h6⟩
theorem dr_give (h : SR lo N K R b b' w cs) (i : Int) : Calls Try.prog 27 #[.agg cs, .int .i64 i] w (DPostR lo N K R b (giveA b' i) (thereE b' i) w) := by
  obtain ⟨A, G, c, d, h1, h2, h3, h4, hK⟩ := h
  refine (dgive_any i h2 h4 (fkFR h1 hK)).mono ?_
  rintro e w' ⟨cs', rfl, h5, h6⟩
  exact ⟨cs', rfl, ⟨A, G, c, d, h1.later h6, h5, h3, h4.give i, fun g hg => ⟨Nat.lt_of_lt_of_le (hK g hg).1 h6.size, (hK g hg).2⟩⟩, h6⟩
theorem dr_set (h : SR lo N K R b b' w cs) (i v : Int) : Calls Try.prog 28 #[.agg cs, .int .i64 i, .int .i64 v] w (DPostR lo N K R b (setA b' i v) (thereE b' i) w) := by
  obtain ⟨A, G, c, d, h1, h2, h3, h4, hK⟩ := h
  refine (dset_any i v h2).mono ?_
  rintro e w' ⟨cs', rfl, h5, h6⟩
  exact ⟨cs', rfl, ⟨A, G, c, d, h1.later h6, h5, h3, h4.set i v, fun g hg => ⟨Nat.lt_of_lt_of_le (hK g hg).1 h6.size, (hK g hg).2⟩⟩, h6⟩
theorem dr_many (h : SR lo N K R b b' w cs) (n v : Int) : Calls Try.prog 25 #[.agg cs, .int .i64 n, .int .i64 v] w (DLPostR lo N K R b (manyB b' n v) (manyR b' n v) (manyE b' n) w) := by
  obtain ⟨A, G, c, d, h1, h2, h3, h4, hK⟩ := h
  refine (dmany_any n v h2 h4 (fkFR h1 hK)).mono ?_
  rintro e w' ⟨cs', L, m, k, rfl, hl, h5, h7, h6⟩
  exact ⟨cs', L, m, k, rfl, hl, h7, ⟨A, G, c, d, h1.later h6, h5, h3, h4.manyB n v, fun g hg => ⟨Nat.lt_of_lt_of_le (hK g hg).1 h6.size, (hK g hg).2⟩⟩, h6⟩
theorem dr_there (h : SR lo N K R b b' w cs) (i : Int) : Calls Try.prog 30 #[.agg cs, .int .i64 i] w fun e w' => e = .returned (.bool (thereD b' i)) ∧ Below w.heap.size w w' := by
  obtain ⟨A, G, c, d, h1, h2, h3, h4, hK⟩ := h
  exact there_any cs b' i w h2
theorem dr_len (h : SR lo N K R b b' w cs) : Calls Try.prog 31 #[.agg cs] w fun e w' => e = .returned (.int .i64 (cnt b'.tk 64)) ∧ Below w.heap.size w w' := by
  obtain ⟨A, G, c, d, h1, h2, h3, h4, hK⟩ := h
  exact dlen_any cs b' w h2
-- what the program's do
def QPostR (lo N : Nat) (K R : Nat → Prop) (b b' : AB) (v : Value) (w : World) (cs : Array Value) (e : Ending) (w' : World) : Prop := e = .returned v ∧ SR lo N K R b b' w' cs ∧ Below lo w w' ∧ ∀ g, K g ∨ R g → w'.heap[g]? = w.heap[g]?
def QLPostR (lo N : Nat) (K R : Nat → Prop) (b b' : AB) (l : List Int) (v : Int) (w : World) (cs : Array Value) (e : Ending) (w' : World) : Prop := ∃ L n k, e = .returned (.tuple #[.slice L n k, .int .i64 v]) ∧ l.length = n ∧ RdI w' L l ∧ SR lo N K R b b' w' cs ∧ Below lo w w' ∧ ∀ g, K g ∨ R g → w'.heap[g]? = w.heap[g]?
theorem st_stepR {A G A' G' : Option Addr} {c d c' d' : Nat} {b2 : AB} {w' : World} (hlo : lo ≤ w.heap.size) (h1 : PA w lo N A G c d b) (h2 : RBk (FK N A G d K) w cs b') (h4 : IV b') (hK : ∀ g, K g ∨ R g → g < w.heap.size ∧ ¬ FA N A G d g)
    (h5 : PA w' lo N A' G' c' d' b2) (h6 : Chg (FA N A G d) w w') (h7 : ∀ g, FA N A' G' d' g → FA N A G d g ∨ w.heap.size ≤ g) (iv : IV b2) : SR lo N K R b2 b' w' cs ∧ Below lo w w' ∧ ∀ g, K g ∨ R g → w'.heap[g]? = w.heap[g]? := by
  refine ⟨⟨A', G', c', d', h5, h2.chg (h6.more (fun g e => .inl (.inl e))) ?_, iv, h4, fun g hg => ⟨Nat.lt_of_lt_of_le (hK g hg).1 h6.size, fun hf => ?_⟩⟩, h6.below h1.low hlo, fun g hg => h6.block g (hK g hg).1 (hK g hg).2⟩
  · rintro g (e | e)
    · rcases h7 g e with x | x
      · exact .inl (.inl x)
      · exact .inr x
    · exact .inl (.inr e)
  · rcases h7 g hf with x | x
    · exact (hK g hg).2 x
    · have := (hK g hg).1; omega
theorem qr_take (h : SR lo N K R b b' w cs) (hlo : lo ≤ w.heap.size) (v : Int) : Calls Try.prog 14 #[.pointer (some ⟨N, 0, none⟩), .int .i64 v] w (QPostR lo N K R (takeA b v) b' (.tuple #[.int .i64 (takeI b), .int .i64 (takeE b)]) w cs) := by
  obtain ⟨A, G, c, d, h1, h2, h3, h4, hK⟩ := h
  refine (ptake_any v h1 h3 hlo).mono ?_
  rintro e w' ⟨A', G', c', d', rfl, h5, h6, h7⟩
  exact ⟨rfl, st_stepR hlo h1 h2 h4 hK h5 h6 h7 (h3.take v)⟩
theorem qr_give (h : SR lo N K R b b' w cs) (hlo : lo ≤ w.heap.size) (i : Int) : Calls Try.prog 21 #[.pointer (some ⟨N, 0, none⟩), .int .i64 i] w (QPostR lo N K R (giveA b i) b' (.int .i64 (thereE b i)) w cs) := by
  obtain ⟨A, G, c, d, h1, h2, h3, h4, hK⟩ := h
  refine (pgive_any i h1 h3 hlo).mono ?_
  rintro e w' ⟨A', G', c', d', rfl, h5, h6, h7⟩
  exact ⟨rfl, st_stepR hlo h1 h2 h4 hK h5 h6 h7 (h3.give i)⟩
theorem qr_set (h : SR lo N K R b b' w cs) (hlo : lo ≤ w.heap.size) (i v : Int) : Calls Try.prog 29 #[.pointer (some ⟨N, 0, none⟩), .int .i64 i, .int .i64 v] w (QPostR lo N K R (setA b i v) b' (.int .i64 (thereE b i)) w cs) := by
  obtain ⟨A, G, c, d, h1, h2, h3, h4, hK⟩ := h
  refine (pset_any i v h1 h3).mono ?_
  rintro e w' ⟨A', G', c', d', rfl, h5, h6, h7⟩
  exact ⟨rfl, st_stepR hlo h1 h2 h4 hK h5 h6 h7 (h3.set i v)⟩
theorem qr_many (h : SR lo N K R b b' w cs) (hlo : lo ≤ w.heap.size) (n v : Int) : Calls Try.prog 24 #[.pointer (some ⟨N, 0, none⟩), .int .i64 n, .int .i64 v] w (QLPostR lo N K R (manyB b n v) b' (manyR b n v) (manyE b n) w cs) := by
  obtain ⟨A, G, c, d, h1, h2, h3, h4, hK⟩ := h
  refine (pmany_any n v h1 h3 hlo).mono ?_
  rintro e w' ⟨L, m, k, A', G', c', d', rfl, hl, hr, h5, h6, h7⟩
  exact ⟨L, m, k, rfl, hl, hr, st_stepR hlo h1 h2 h4 hK h5 h6 h7 (h3.manyB n v)⟩
theorem qr_get (h : SR lo N K R b b' w cs) (i : Int) : Calls Try.prog 22 #[.pointer (some ⟨N, 0, none⟩), .int .i64 i] w fun e w' => e = .returned (.tuple #[.int .i64 (if thereD b i = true then b.vl i.toNat else 0), .bool (thereD b i)]) ∧ w = w' := by
  obtain ⟨A, G, c, d, h1, h2, h3, h4, hK⟩ := h
  rcases ht : thereD b i with _ | _
  · exact pget_out h1 h3 ht
  · exact pget_in h1 h3 ht
theorem qr_len (h : SR lo N K R b b' w cs) : Calls Try.prog 15 #[.pointer (some ⟨N, 0, none⟩)] w fun e w' => e = .returned (.int .i64 (cnt b.tk 64)) ∧ Below w.heap.size w w' := by
  obtain ⟨A, G, c, d, h1, h2, h3, h4, hK⟩ := h
  exact plen h1 h3
theorem qr_left (h : SR lo N K R b b' w cs) : Calls Try.prog 9 #[.pointer (some ⟨N, 0, none⟩)] w fun e w' => e = .returned (.int .i64 (b.most - cnt b.tk 64)) ∧ Below w.heap.size w w' := by
  obtain ⟨A, G, c, d, h1, h2, h3, h4, hK⟩ := h
  exact pleft h1 h3
theorem qr_top (h : SR lo N K R b b' w cs) : Calls Try.prog 32 #[.pointer (some ⟨N, 0, none⟩)] w fun e w' => e = .returned (.int .i64 b.top) ∧ w = w' := by
  obtain ⟨A, G, c, d, h1, h2, h3, h4, hK⟩ := h
  exact ptop h1
theorem qr_all (h : SR lo N K R b b' w cs) : Calls Try.prog 13 #[.pointer (some ⟨N, 0, none⟩)] w (AllPost w (tkL b b.top)) := by
  obtain ⟨A, G, c, d, h1, h2, h3, h4, hK⟩ := h
  exact pall h1 h3
end

theorem SR.of {lo N : Nat} {K : Nat → Prop} {b b' : AB} {w : World} {cs : Array Value} (h : ST lo N K b b' w cs) : SR lo N K (fun _ => False) b b' w cs := by
  obtain ⟨A, G, c, d, h1, h2, h3, h4, hK⟩ := h
  exact ⟨A, G, c, d, h1, h2, h3, h4, fun g hg => hK g (hg.elim id False.elim)⟩
theorem SR.to {lo N : Nat} {K R : Nat → Prop} {b b' : AB} {w : World} {cs : Array Value} (h : SR lo N K R b b' w cs) : ST lo N K b b' w cs := by
  obtain ⟨A, G, c, d, h1, h2, h3, h4, hK⟩ := h
  exact ⟨A, G, c, d, h1, h2, h3, h4, fun g hg => hK g (.inl hg)⟩
end Go.Proofs.Ytpihoegikojlaaa
