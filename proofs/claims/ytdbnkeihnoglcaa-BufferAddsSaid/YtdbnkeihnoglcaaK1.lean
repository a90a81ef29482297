/- What may change: a set of blocks. -/
import Derived.Maps.OwnSet
import Derived.Maps.Views
import Derived.Test.YtdbnkeihnoglcaaG2
namespace Go.Proofs.Ytdbnkeihnoglcaa
set_option linter.unusedSimpArgs false
open Go.RowKit Go.Maps
set_option linter.unusedVariables false
structure Chg (D : Nat → Prop) (w w' : World) : Prop where
  os : w'.os = w.os
  tape : w'.tape = w.tape
  output : w'.output = w.output
  size : w.heap.size ≤ w'.heap.size
  block : ∀ g, g < w.heap.size → ¬ D g → w'.heap[g]? = w.heap[g]?
theorem Chg.refl (D : Nat → Prop) (w : World) : Chg D w w := ⟨rfl, rfl, rfl, Nat.le_refl _, fun _ _ _ => rfl⟩
theorem Chg.of_below {D : Nat → Prop} {w w' : World} (h : Below w.heap.size w w') : Chg D w w' := ⟨h.os, h.tape, h.output, h.size, fun g hg _ => h.block g hg⟩
theorem Chg.trans {F G : Nat → Prop} {w w1 w2 : World} (h : Chg F w w1) (k : Chg G w1 w2) (hG : ∀ g, G g → F g ∨ w.heap.size ≤ g) : Chg F w w2 :=
  ⟨k.os.trans h.os, k.tape.trans h.tape, k.output.trans h.output, Nat.le_trans h.size k.size, fun g hg hn => (k.block g (Nat.lt_of_lt_of_le hg h.size) (fun e => by rcases hG g e with x | x; exact hn x; omega)).trans (h.block g hg hn)⟩
theorem Chg.more {F G : Nat → Prop} {w w' : World} (h : Chg F w w') (hG : ∀ g, F g → G g ∨ w.heap.size ≤ g) : Chg G w w' := ⟨h.os, h.tape, h.output, h.size, fun g hg hn => h.block g hg (fun e => by rcases hG g e with x | x; exact hn x; omega)⟩
theorem Chg.below {F : Nat → Prop} {w w' : World} {lo : Nat} (h : Chg F w w') (hF : ∀ g, F g → lo ≤ g) (hlo : lo ≤ w.heap.size) : Below lo w w' :=
  ⟨h.os, h.tape, h.output, h.size, fun g hg => h.block g (by omega) (fun e => by have := hF g e; omega)⟩
theorem Chg.set {D : Nat → Prop} (w : World) {l o : Nat} (v : Value) (hl : D l) : Chg D w (w.setCell ⟨l, o, none⟩ v) :=
  ⟨rfl, rfl, rfl, by simp, fun g hg hn => by
    have : l ≠ g := fun e => hn (e ▸ hl)
    simp [World.setCell, Array.getElem?_modify, this]⟩
theorem Chg.low {B : Nat} {w w' : World} (h : Below B w w') : Chg (fun g => B ≤ g) w w' := ⟨h.os, h.tape, h.output, h.size, fun g _ hn => h.block g (by omega)⟩
theorem keep_chg {E : Nat → Prop} {w w' : World} {x : Nat} {o : Obj} (hc : Chg E w w') (ho : w.heap[x]? = some o) (hx : ¬ E x) : w'.heap[x]? = some o :=
  (hc.block x (by
    rcases Nat.lt_or_ge x w.heap.size with h' | h'
    · exact h'
    · simp [Array.getElem?_eq_none h'] at ho) hx).trans ho

theorem chg_of_grown {w w' : World} {row : Option Nat} (h : w.grownBy w' row) : Chg (fun g => row = some g) w w' := ⟨h.os, h.tape, h.output, h.size, fun g hg hn => h.block g hg (fun e => hn e.symm)⟩
end Go.Proofs.Ytdbnkeihnoglcaa
