/- What is kept where other blocks are written; the program's Take, Give, Set. -/
import Derived.Test.YtpihoegikojlaaaB7
import Derived.Test.YtpihoegikojlaaaP3
import Derived.Test.YtpihoegikojlaaaP4
namespace Go.Proofs.Ytpihoegikojlaaa
set_option linter.unusedSimpArgs false
open Go.RowKit Go.Maps
set_option linter.unusedVariables false
variable {F : Nat → Prop}

theorem rdi_chg {F : Nat → Prop} {w w' : World} {A : Option Addr} {l : List Int} (h : RdI w A l) (hc : Chg F w w') (hF : ∀ a, A = some a → ¬ F a.block) : RdI w' A l := by
  rcases h with h | ⟨b, off, e, hlt, hcell⟩
  · exact .inl h
  · refine .inr ⟨b, off, e, Nat.lt_of_lt_of_le hlt hc.size, fun j u hj => ?_⟩
    exact (World.cell?_of_block (hc.block b hlt (hF _ e))).trans (hcell j u hj)
theorem RdF.chg {F F' : Nat → Prop} {w w' : World} {A : Option Addr} {l : List Int} (h : RdF F w A l) (hc : Chg F w w') (hF : ∀ g, F' g → F g ∨ w.heap.size ≤ g) : RdF F' w' A l := by
  by_cases hl : l = []
  · subst hl; exact ⟨.inl rfl, .inl rfl⟩
  · rcases h.2 with h2 | h2
    · exact absurd h2 hl
    · refine ⟨rdi_chg h.1 hc h2, .inr (fun a ha hf => ?_)⟩
      rcases h.1 with h1 | ⟨b, off, e, hlt, _⟩
      · exact hl (List.map_eq_nil_iff.1 h1)
      · subst e
        cases ha
        rcases hF _ hf with x | x
        · exact h2 _ rfl x
        · exact absurd hlt (by show ¬ b < _; have : w.heap.size ≤ b := x; omega)
theorem RBk.chg {F F' : Nat → Prop} {w w' : World} {cs : Array Value} {b : AB} (h : RBk F w cs b) (hc : Chg F w w') (hF : ∀ g, F' g → F g ∨ w.heap.size ≤ g) : RBk F' w' cs b := by
  obtain ⟨h1, h2, h3, h4, h5, h6, ⟨A, c, h7, h9, h8⟩⟩ := h
  exact ⟨h1, h2, h3, h4, h5, h6, ⟨A, c, h7, h9, h8.chg hc hF⟩⟩
theorem RBk.less {F F' : Nat → Prop} {w : World} {cs : Array Value} {b : AB} (h : RBk F w cs b) (hF : ∀ g, F' g → F g ∨ w.heap.size ≤ g) : RBk F' w cs b := h.chg (Chg.refl _ _) hF
theorem own_chg {D : Nat → Prop} {w w' : World} {base n size : Nat} {e : TypeId} {v : Value} {xs : List Value} (h : w.ownsRow base e size v n xs) (hc : Chg D w w') (hD : ∀ g, v.ownBlock = some g → ¬ D g) : w'.ownsRow base e size v n xs := by
  rcases h with ⟨h1, h2 | ⟨g, cap, cur, rfl, hb, hh, hr⟩⟩
  · exact ⟨h1, .inl h2⟩
  · exact ⟨h1, .inr ⟨g, cap, cur, rfl, hb, (hc.block g (Array.getElem?_eq_some_iff.1 hh).1 (hD g rfl)).trans hh, hr⟩⟩
theorem Row.chg {D : Nat → Prop} {w w' : World} {base : Nat} {A : Option Addr} {l : List Int} {c : Nat} (h : Row w base A l c) (hc : Chg D w w') (hD : ∀ g, fpr A c = some g → ¬ D g) : Row w' base A l c := by
  rcases h with h | ⟨h0, h⟩
  · exact .inl h
  · refine .inr ⟨h0, own_chg h hc (fun g hg => hD g ?_)⟩
    rw [ob_eq] at hg
    have : ¬ c = 0 := by omega
    simp [fpr, this, hg]
/-- Other blocks are written. -/
theorem PA.far {D : Nat → Prop} {w w' : World} {lo N : Nat} {A G : Option Addr} {c d : Nat} {b : AB} (h : PA w lo N A G c d b) (hc : Chg D w w') (hD : ∀ g, D g → ¬ FA N A G d g) : PA w' lo N A G c d b := by
  have hN : ¬ D N := fun e => hD N e (.inl rfl)
  have hb := hc.block N h.hN.2 hN
  obtain ⟨pl, hp, hq⟩ := h.pl
  exact ⟨⟨h.hN.1, Nat.lt_of_lt_of_le h.hN.2 hc.size⟩, (World.cell?_of_block hb).trans h.c0, (World.cell?_of_block hb).trans h.c1, (World.cell?_of_block hb).trans h.c2, fun j => (World.frozen?_of_block hb).trans (h.fz j), ⟨pl, own_chg hp hc (fun g hg e => hD g e (.inr (.inl (by rw [← ob_eq A b.top c]; exact hg)))), hq⟩, h.gs.chg hc (fun g hg e => hD g e (.inr (.inr hg))), h.d1, h.d2, h.d3, h.d4⟩
section
variable {w : World} {lo N : Nat} {A G : Option Addr} {c d : Nat} {b : AB}
theorem ptake_full (v : Int) (h : PA w lo N A G c d b) (iv : IV b) (hf : full b) :
    Calls Try.prog 14 #[.pointer (some ⟨N, 0, none⟩), .int .i64 v] w (WPost lo N A G d b (.tuple #[.int .i64 0, .int .i64 9]) w) := by
  have C := pleft h iv
  have hz : b.most - (cnt b.tk 64 : Int) = 0 := by
    have h1 := iv.cn
    have h2 := iv.tp
    unfold full at hf; omega
  rw [hz] at C
  have CC := Lib.hid C
  have H := Lib.hid h
  clear C h iv hf hz
  go_enter Try.func14, Try.ntmps14
  go_wp2_with fail
  refine CC.out.mono ?_
  rintro e w1 ⟨rfl, hb⟩
  go_wp2
  refine bodyPost_ret (v := .tuple #[.int .i64 0, .int .i64 9]) (by simp [results, Try.results14, go_sem]) rfl ⟨A, G, c, d, rfl, H.out.later hb, Chg.of_below hb, fun g hg => .inl hg⟩
theorem ptake_any (v : Int) (h : PA w lo N A G c d b) (iv : IV b) (hlo : lo ≤ w.heap.size) :
    Calls Try.prog 14 #[.pointer (some ⟨N, 0, none⟩), .int .i64 v] w (WPost lo N A G d (takeA b v) (.tuple #[.int .i64 (takeI b), .int .i64 (takeE b)]) w) := by
  rcases take_ways iv v with ⟨hf, e1, e2, e3⟩ | ⟨hf, hb, ht2, e1, e2, e3⟩ | ⟨hf, l, i, hb, hi, _, hm, e1, e2, e3⟩
  · rw [e1, e2, e3]; exact ptake_full v h iv hf
  · rw [e1, e2, e3]; exact ptake_fresh v h iv hf hb hlo
  · rw [e1, e2, e3]; exact ptake_back v l i h iv hf hb hi
theorem pgive_any (i : Int) (h : PA w lo N A G c d b) (iv : IV b) (hlo : lo ≤ w.heap.size) :
    Calls Try.prog 21 #[.pointer (some ⟨N, 0, none⟩), .int .i64 i] w (WPost lo N A G d (giveA b i) (.int .i64 (thereE b i)) w) := by
  unfold giveA thereE
  rcases ht : thereD b i with _ | _
  · exact pgive_no i h iv ht
  · exact pgive_yes i h iv hlo ht
theorem pset_any (i v : Int) (h : PA w lo N A G c d b) (iv : IV b) :
    Calls Try.prog 29 #[.pointer (some ⟨N, 0, none⟩), .int .i64 i, .int .i64 v] w (WPost lo N A G d (setA b i v) (.int .i64 (thereE b i)) w) := by
  unfold setA thereE
  rcases ht : thereD b i with _ | _
  · exact pset_no i v h iv ht
  · exact pset_yes i v h iv ht
end
def manyA (b : AB) (v : Int) : Nat → AB
  | 0 => b
  | k + 1 => takeA (manyA b v k) v
def manyL (b : AB) (v : Int) : Nat → List Int
  | 0 => []
  | k + 1 => manyL b v k ++ [takeI (manyA b v k)]
theorem manyL_len (b : AB) (v : Int) (k : Nat) : (manyL b v k).length = k := by
  induction k with
  | zero => rfl
  | succ k ih => simp [manyL, ih]
theorem IV.many {b : AB} (h : IV b) (v : Int) (k : Nat) : IV (manyA b v k) := by
  induction k with
  | zero => exact h
  | succ k ih => exact ih.take v
theorem take_cnt {b : AB} (iv : IV b) (v : Int) (hf : ¬ full b) : cnt (takeA b v).tk 64 = cnt b.tk 64 + 1 ∧ (takeA b v).most = b.most ∧ takeE b = 0 := by
  have ht := iv.top60
  rcases take_ways iv v with ⟨hf2, _⟩ | ⟨_, hb, ht2, e1, e2, e3⟩ | ⟨_, l, i, hb, hi, hk, hm, e1, e2, e3⟩
  · exact absurd hf2 hf
  · have h0 : b.tk (b.top + 1) = false := by
      rcases hq : b.tk (b.top + 1) with _ | _
      · rfl
      · have := (iv.out _ hq).2; omega
    have hu := cnt_upd b.tk (b.top + 1) true 64 (by omega)
    rw [h0] at hu
    rw [e1]
    have hu : cnt (upd b.tk (b.top + 1) true) 64 = cnt b.tk 64 + 1 := by simpa using hu
    exact ⟨hu, rfl, e3⟩
  · have hu := cnt_upd b.tk (i + 1) true 64 (by omega)
    rw [hk] at hu
    rw [e1]
    have hu : cnt (upd b.tk (i + 1) true) 64 = cnt b.tk 64 + 1 := by simpa using hu
    exact ⟨hu, rfl, e3⟩
theorem many_cnt {b : AB} (iv : IV b) (v : Int) (k : Nat) (hk : (k : Int) ≤ b.most - cnt b.tk 64) : cnt (manyA b v k).tk 64 = cnt b.tk 64 + k ∧ (manyA b v k).most = b.most := by
  induction k with
  | zero => exact ⟨rfl, rfl⟩
  | succ k ih =>
    obtain ⟨h1, h2⟩ := ih (by omega)
    have hf : ¬ full (manyA b v k) := by unfold full; rw [h1, h2]; omega
    obtain ⟨h3, h4, _⟩ := take_cnt (iv.many v k) v hf
    exact ⟨by show cnt (takeA (manyA b v k) v).tk 64 = _; rw [h3, h1]; omega, by show (takeA (manyA b v k) v).most = _; rw [h4, h2]⟩
theorem many_err {b : AB} (iv : IV b) (v : Int) (k : Nat) (hk : (k : Int) < b.most - cnt b.tk 64) : takeE (manyA b v k) = 0 := by
  obtain ⟨h1, h2⟩ := many_cnt iv v k (by omega)
  exact (take_cnt (iv.many v k) v (by unfold full; rw [h1, h2]; omega)).2.2
def manyB (b : AB) (n v : Int) : AB := if n < 0 then b else if b.most - cnt b.tk 64 < n then b else manyA b v n.toNat
def manyR (b : AB) (n v : Int) : List Int := if n < 0 then [] else if b.most - cnt b.tk 64 < n then [] else manyL b v n.toNat
def manyE (b : AB) (n : Int) : Int := if n < 0 then 2 else if b.most - cnt b.tk 64 < n then 9 else 0
theorem IV.manyB {b : AB} (h : IV b) (n v : Int) : IV (manyB b n v) := by
  unfold Ytpihoegikojlaaa.manyB
  split
  · exact h
  · split
    · exact h
    · exact h.many v _
end Go.Proofs.Ytpihoegikojlaaa
