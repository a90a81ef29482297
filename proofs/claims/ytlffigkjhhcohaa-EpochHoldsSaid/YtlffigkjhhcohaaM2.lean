/- Both books in memory: each call keeps them together. -/
import Derived.Test.YtlffigkjhhcohaaM1
import Derived.Test.YtlffigkjhhcohaaR6
import Derived.Test.YtlffigkjhhcohaaR7
namespace Go.Proofs.Ytlffigkjhhcohaa
set_option linter.unusedSimpArgs false
open Go.RowKit Go.Maps
set_option linter.unusedVariables false

theorem PB.fin {w : World} {lo N M : Nat} {A1 A2 : Option Addr} {k1 k2 m : Nat} {ss now : Int} {S : Int → Option Int} {wl sl : List Int} (h : PB w lo N M A1 A2 k1 k2 m ss now S wl sl) : ∀ g, FB N M A1 A2 k1 k2 g → g < w.heap.size := by
  rintro g (e | e | e | e)
  · rw [e]; exact h.hN.2
  · rw [e]; exact h.mlt
  · exact (h.r1.fp_lt e).2
  · exact (h.r2.fp_lt e).2
theorem RdF.chg {F F' : Nat → Prop} {w w' : World} {A : Option Addr} {l : List Int} (h : RdF F w A l) (hc : Chg F w w') (hF : ∀ g, F' g → F g ∨ w.heap.size ≤ g) : RdF F' w' A l := by
  by_cases hl : l = []
  · subst hl; exact ⟨.inl rfl, .inl rfl⟩
  · rcases h.2 with h2 | h2
    · exact absurd h2 hl
    · refine ⟨rdi_chg h.1 hc h2, .inr (fun a ha hf => ?_)⟩
      rcases h.1 with h1 | ⟨b, off, e, hlt, _⟩
      · exact hl (List.map_eq_nil_iff.1 h1)
      · subst e
        cases ha
        rcases hF _ hf with x | x
        · exact h2 _ rfl x
        · exact absurd hlt (by show ¬ b < _; have : w.heap.size ≤ b := x; omega)
theorem RBk.chg {F F' : Nat → Prop} {w w' : World} {cs : Array Value} {b : RB} (h : RBk F w cs b) (hc : Chg F w w') (hF : ∀ g, F' g → F g ∨ w.heap.size ≤ g) : RBk F' w' cs b := by
  obtain ⟨h1, h2, h3, h4, h5, h6, ⟨A, c, h7, h8⟩, ⟨A', c', h9, h10⟩⟩ := h
  exact ⟨h1, h2, h3, h4, h5, h6, ⟨A, c, h7, h8.chg hc hF⟩, ⟨A', c', h9, h10.chg hc hF⟩⟩
/-- A book's blocks, and others that are kept. -/
def FK (N M : Nat) (A1 A2 : Option Addr) (k1 k2 : Nat) (K : Nat → Prop) (g : Nat) : Prop := FB N M A1 A2 k1 k2 g ∨ K g
/-- The program's book says b, the document's b', and a row l of the document's lies at A; no block of K is the book's or a row's of the document. -/
def STL (c lo N : Nat) (K : Nat → Prop) (b b' : RB) (w : World) (cs : Array Value) (A : Option Addr) (l : List Int) : Prop :=
  ∃ (M : Nat) (A1 A2 : Option Addr) (k1 k2 m : Nat) (S : Int → Option Int), PB w lo N M A1 A2 k1 k2 m b.ss b.now S b.wl b.al ∧ RBk (FK N M A1 A2 k1 k2 K) w cs b' ∧ EQ c S m b ∧ RdF (FK N M A1 A2 k1 k2 K) w A l ∧ ∀ g, K g → g < w.heap.size ∧ ¬ FB N M A1 A2 k1 k2 g
def ST (c lo N : Nat) (K : Nat → Prop) (b b' : RB) (w : World) (cs : Array Value) : Prop := STL c lo N K b b' w cs none []
theorem STL.later {c lo N : Nat} {K : Nat → Prop} {b b' : RB} {w w' : World} {cs : Array Value} {A : Option Addr} {l : List Int} (h : STL c lo N K b b' w cs A l) (hb : Below w.heap.size w w') : STL c lo N K b b' w' cs A l := by
  obtain ⟨M, A1, A2, k1, k2, m, S, h1, h2, h3, h4, hK⟩ := h
  exact ⟨M, A1, A2, k1, k2, m, S, h1.later hb, h2.later hb, h3, h4.later hb, fun g hg => ⟨Nat.lt_of_lt_of_le (hK g hg).1 hb.size, (hK g hg).2⟩⟩
theorem STL.rd {c lo N : Nat} {K : Nat → Prop} {b b' : RB} {w : World} {cs : Array Value} {A : Option Addr} {l : List Int} (h : STL c lo N K b b' w cs A l) : RdI w A l := by
  obtain ⟨M, A1, A2, k1, k2, m, S, h1, h2, h3, h4, hK⟩ := h
  exact h4.1
theorem STL.off {c lo N : Nat} {K : Nat → Prop} {b b' : RB} {w : World} {cs : Array Value} {A : Option Addr} {l : List Int} (h : STL c lo N K b b' w cs A l) : ST c lo N K b b' w cs := by
  obtain ⟨M, A1, A2, k1, k2, m, S, h1, h2, h3, h4, hK⟩ := h
  exact ⟨M, A1, A2, k1, k2, m, S, h1, h2, h3, ⟨.inl rfl, .inl rfl⟩, hK⟩
theorem STL.more {c c' lo N : Nat} {K : Nat → Prop} {b b' : RB} {w : World} {cs : Array Value} {A : Option Addr} {l : List Int} (h : STL c lo N K b b' w cs A l) (hc : c ≤ c') : STL c' lo N K b b' w cs A l := by
  obtain ⟨M, A1, A2, k1, k2, m, S, h1, h2, h3, h4, hK⟩ := h
  exact ⟨M, A1, A2, k1, k2, m, S, h1, h2, h3.more hc, h4, hK⟩
theorem ST.more {c c' lo N : Nat} {K : Nat → Prop} {b b' : RB} {w : World} {cs : Array Value} (h : ST c lo N K b b' w cs) (hc : c ≤ c') : ST c' lo N K b b' w cs := STL.more h hc
theorem ST.later {c lo N : Nat} {K : Nat → Prop} {b b' : RB} {w w' : World} {cs : Array Value} (h : ST c lo N K b b' w cs) (hb : Below w.heap.size w w') : ST c lo N K b b' w' cs := STL.later h hb
theorem ST.eq {c lo N : Nat} {K : Nat → Prop} {b b' : RB} {w : World} {cs : Array Value} (h : ST c lo N K b b' w cs) : ∃ m S, EQ c S m b := by
  obtain ⟨M, A1, A2, k1, k2, m, S, h1, h2, h3, h4, hK⟩ := h
  exact ⟨m, S, h3⟩
theorem now_wf {c : Nat} {x : Int} (h : 0 ≤ x ∧ x ≤ c) (hc : c ≤ 1000) : (Lit.int .i64 x).wf = true := by
  have : (c : Int) ≤ 1000 := by omega
  simp [Lit.wf, IntKind.min, IntKind.max, IntKind.signed, IntKind.bits]
  omega

theorem finK {F K : Nat → Prop} {n : Nat} (h : ∀ g, F g → g < n) (hK : ∀ g, K g → g < n ∧ ¬ F g) : ∀ g, (F g ∨ K g) → g < n := by
  rintro g (e | e)
  · exact h g e
  · exact (hK g e).1
theorem chgK {F F' K : Nat → Prop} {n : Nat} (h : ∀ g, F' g → F g ∨ n ≤ g) : ∀ g, (F' g ∨ K g) → (F g ∨ K g) ∨ n ≤ g := by
  rintro g (e | e)
  · rcases h g e with h | h
    · exact .inl (.inl h)
    · exact .inr h
  · exact .inl (.inr e)
theorem Chg.more {F G : Nat → Prop} {w w' : World} (h : Chg F w w') (hG : ∀ g, F g → G g) : Chg G w w' := ⟨h.os, h.tape, h.output, h.size, fun g hg hn => h.block g hg (fun e => hn (hG g e))⟩
theorem keepK {K F F' : Nat → Prop} {w w' : World} (hK : ∀ g, K g → g < w.heap.size ∧ ¬ F g) (hs : w.heap.size ≤ w'.heap.size) (hF : ∀ g, F' g → F g ∨ w.heap.size ≤ g) : ∀ g, K g → g < w'.heap.size ∧ ¬ F' g := by
  intro g hg
  obtain ⟨h1, h2⟩ := hK g hg
  refine ⟨Nat.lt_of_lt_of_le h1 hs, fun hf => ?_⟩
  rcases hF g hf with h | h
  · exact h2 h
  · omega
/-- Blocks that came later are no blocks of the book. -/
theorem STL.wide {c lo N : Nat} {K : Nat → Prop} {b b' : RB} {w w' : World} {cs : Array Value} {A : Option Addr} {l : List Int} (h : STL c lo N K b b' w cs A l) (hb : Below w.heap.size w w') (K' : Nat → Prop) (hK' : ∀ g, K' g → K g ∨ (w.heap.size ≤ g ∧ g < w'.heap.size)) : STL c lo N K' b b' w' cs A l := by
  obtain ⟨M, A1, A2, k1, k2, m, S, h1, h2, h3, h4, hK⟩ := h
  have hF : ∀ g, FK N M A1 A2 k1 k2 K' g → FK N M A1 A2 k1 k2 K g ∨ w.heap.size ≤ g := by
    rintro g (e | e)
    · exact .inl (.inl e)
    · rcases hK' g e with h | h
      · exact .inl (.inr h)
      · exact .inr h.1
  refine ⟨M, A1, A2, k1, k2, m, S, h1.later hb, h2.chg (.of_below hb) hF, h3, h4.chg (.of_below hb) hF, fun g hg => ?_⟩
  rcases hK' g hg with h | h
  · exact ⟨Nat.lt_of_lt_of_le (hK g h).1 hb.size, (hK g h).2⟩
  · exact ⟨h.2, fun hf => by have := h1.fin g hf; omega⟩
theorem ST.wide {c lo N : Nat} {K : Nat → Prop} {b b' : RB} {w w' : World} {cs : Array Value} (h : ST c lo N K b b' w cs) (hb : Below w.heap.size w w') (K' : Nat → Prop) (hK' : ∀ g, K' g → K g ∨ (w.heap.size ≤ g ∧ g < w'.heap.size)) : ST c lo N K' b b' w' cs := STL.wide h hb K' hK'
theorem PB.apart {w w' : World} {lo N M : Nat} {A1 A2 : Option Addr} {k1 k2 m : Nat} {ss now : Int} {S : Int → Option Int} {wl sl : List Int} {g : Nat} (h : PB w lo N M A1 A2 k1 k2 m ss now S wl sl) (hg : w.grownBy w' (some g)) (hF : ¬ FB N M A1 A2 k1 k2 g) : PB w' lo N M A1 A2 k1 k2 m ss now S wl sl := by
  have hN : some N ≠ some g := fun e => hF (.inl (by injection e with e; exact e.symm))
  have hM : some M ≠ some g := fun e => hF (.inr (.inl (by injection e with e; exact e.symm)))
  have n1 : fpr A1 k1 ≠ some g := fun e => hF (.inr (.inr (.inl e)))
  have n2 : fpr A2 k2 ≠ some g := fun e => hF (.inr (.inr (.inr e)))
  have hc : ∀ j, w'.cell? ⟨N, j, none⟩ = w.cell? ⟨N, j, none⟩ := fun j => World.cell?_of_block (hg.block N h.hN.2 hN)
  obtain ⟨D, hD, hF⟩ := h.mp
  exact ⟨⟨h.hN.1, Nat.lt_of_lt_of_le h.hN.2 hg.size⟩, h.hM, (hc 0).trans h.c0, (hc 1).trans h.c1, (hc 2).trans h.c2, (hc 3).trans h.c3, (hc 4).trans h.c4, fun j => (World.frozen?_of_block (hg.block N h.hN.2 hN)).trans (h.fz j), ⟨D, hD.kept hg hM, hF⟩, h.r1.kept hg (.inr n1), h.r2.kept hg (.inr n2), h.d1, h.d2, h.d⟩
/-- A kept block is written. -/
theorem STL.apart {c lo N g : Nat} {K : Nat → Prop} {b b' : RB} {w w' : World} {cs : Array Value} {A : Option Addr} {l : List Int} (h : STL c lo N K b b' w cs A l) (hg : w.grownBy w' (some g)) (hKg : K g) : STL c lo N K b b' w' cs A l := by
  obtain ⟨M, A1, A2, k1, k2, m, S, h1, h2, h3, h4, hK⟩ := h
  have hc : Chg (FK N M A1 A2 k1 k2 K) w w' := Chg.of_grown hg (fun x hx => by cases hx; exact .inr hKg)
  exact ⟨M, A1, A2, k1, k2, m, S, h1.apart hg (hK g hKg).2, h2.chg hc (fun g hg => .inl hg), h3, h4.chg hc (fun g hg => .inl hg), fun x hx => ⟨Nat.lt_of_lt_of_le (hK x hx).1 hg.size, (hK x hx).2⟩⟩
theorem ST.apart {c lo N g : Nat} {K : Nat → Prop} {b b' : RB} {w w' : World} {cs : Array Value} (h : ST c lo N K b b' w cs) (hg : w.grownBy w' (some g)) (hKg : K g) : ST c lo N K b b' w' cs := STL.apart h hg hKg
/-- Fewer blocks are kept. -/
theorem STL.less {c lo N : Nat} {K K' : Nat → Prop} {b b' : RB} {w : World} {cs : Array Value} {A : Option Addr} {l : List Int} (h : STL c lo N K b b' w cs A l) (hK' : ∀ g, K' g → K g) : STL c lo N K' b b' w cs A l :=
  h.wide (Below.refl _ _) K' (fun g hg => .inl (hK' g hg))
theorem ST.less {c lo N : Nat} {K K' : Nat → Prop} {b b' : RB} {w : World} {cs : Array Value} (h : ST c lo N K b b' w cs) (hK' : ∀ g, K' g → K g) : ST c lo N K' b b' w cs := STL.less h hK'
-- what the document's functions do
def DPost (c lo N : Nat) (K : Nat → Prop) (b b' : RB) (v : Int) (w : World) (e : Ending) (w' : World) : Prop := ∃ cs', e = .returned (.tuple #[.agg cs', .int .i64 v]) ∧ ST c lo N K b b' w' cs' ∧ Below w.heap.size w w'
def DBPost (c lo N : Nat) (K : Nat → Prop) (b b' : RB) (w : World) (e : Ending) (w' : World) : Prop := ∃ cs', e = .returned (.agg cs') ∧ ST c lo N K b b' w' cs' ∧ Below w.heap.size w w'
def DYPost (c lo N : Nat) (K : Nat → Prop) (b b' : RB) (n : Nat) (l : List Int) (w : World) (e : Ending) (w' : World) : Prop := ∃ cs' A k, e = .returned (.tuple #[.agg cs', .slice A n k]) ∧ STL c lo N K b b' w' cs' A l ∧ Below w.heap.size w w'
section
variable {c lo N : Nat} {K : Nat → Prop} {b : RB} {w : World} {cs : Array Value}
theorem d_enter (h : ST c lo N K b b w cs) (who : Int) : Calls Try.prog 13 #[.agg cs, .int .i64 who] w (DPost c lo N K b (enterR b who) (askR b who false) w) := by
  obtain ⟨M, A1, A2, k1, k2, m, S, h1, h2, h3, h4, hK⟩ := h
  refine (renter_any cs b who w h2 h3.ss.2).mono ?_
  rintro e w' ⟨cs', rfl, h5, h6⟩
  exact ⟨cs', rfl, ⟨M, A1, A2, k1, k2, m, S, h1.later h6, h5, h3, ⟨.inl rfl, .inl rfl⟩, fun g hg => ⟨Nat.lt_of_lt_of_le (hK g hg).1 h6.size, (hK g hg).2⟩⟩, h6⟩
theorem d_leave (h : ST c lo N K b b w cs) (who : Int) : Calls Try.prog 26 #[.agg cs, .int .i64 who] w (DPost c lo N K b (leaveR b who) (askR b who true) w) := by
  obtain ⟨M, A1, A2, k1, k2, m, S, h1, h2, h3, h4, hK⟩ := h
  refine (rleave_any cs b who w h2 h3.ss.2).mono ?_
  rintro e w' ⟨cs', rfl, h5, h6⟩
  exact ⟨cs', rfl, ⟨M, A1, A2, k1, k2, m, S, h1.later h6, h5, h3, ⟨.inl rfl, .inl rfl⟩, fun g hg => ⟨Nat.lt_of_lt_of_le (hK g hg).1 h6.size, (hK g hg).2⟩⟩, h6⟩
theorem d_retire (h : ST c lo N K b b w cs) (hc : c ≤ 900) (x : Int) : Calls Try.prog 15 #[.agg cs, .int .i64 x] w (DBPost c lo N K b (retireR b x) w) := by
  obtain ⟨M, A1, A2, k1, k2, m, S, h1, h2, h3, h4, hK⟩ := h
  refine (rretire_any cs b x w (Lib.hid (finK h1.fin hK)) h2 h3.now.1 (by have := h3.now.2; omega) (by have := h3.wl; omega) (by have := h3.wl; have := h3.al; omega)).mono ?_
  rintro e w' ⟨cs', rfl, h5, h6⟩
  exact ⟨cs', rfl, ⟨M, A1, A2, k1, k2, m, S, h1.later h6, h5, h3, ⟨.inl rfl, .inl rfl⟩, fun g hg => ⟨Nat.lt_of_lt_of_le (hK g hg).1 h6.size, (hK g hg).2⟩⟩, h6⟩
theorem d_ready (h : ST c lo N K b b w cs) (hc : c ≤ 900) : Calls Try.prog 18 #[.agg cs] w (DYPost c lo N K b (readyR b (nR b)) (nR b) (b.wl.take (nR b)) w) := by
  obtain ⟨M, A1, A2, k1, k2, m, S, h1, h2, h3, h4, hK⟩ := h
  refine (rready_any cs b w (Lib.hid (finK h1.fin hK)) h2 (by have := h3.wl; omega) h3.al (nR b) h3.nlt (nR_le b)).mono ?_
  rintro e w' ⟨cs', A, k, rfl, h5, h7, h6⟩
  exact ⟨cs', A, k, rfl, ⟨M, A1, A2, k1, k2, m, S, h1.later h6, h5, h3, h7, fun g hg => ⟨Nat.lt_of_lt_of_le (hK g hg).1 h6.size, (hK g hg).2⟩⟩, h6⟩
theorem d_in (h : ST c lo N K b b w cs) (who : Int) : Calls Try.prog 27 #[.agg cs, .int .i64 who] w fun e w' => e = .returned (.bool (inR b who)) ∧ Below w.heap.size w w' := by
  obtain ⟨M, A1, A2, k1, k2, m, S, h1, h2, h3, h4, hK⟩ := h
  exact rin_any cs b who w h2
theorem d_least (h : ST c lo N K b b w cs) : Calls Try.prog 28 #[.agg cs] w fun e w' => e = .returned (.int .i64 (leastR b 64)) ∧ Below w.heap.size w w' := by
  obtain ⟨M, A1, A2, k1, k2, m, S, h1, h2, h3, h4, hK⟩ := h
  exact rleast_any cs b w h2
end
-- what the program's do
def QPost (c lo N : Nat) (K : Nat → Prop) (b b' : RB) (v : Int) (w : World) (cs : Array Value) (e : Ending) (w' : World) : Prop := e = .returned (.int .i64 v) ∧ ST c lo N K b b' w' cs ∧ Below lo w w' ∧ ∀ g, K g → w'.heap[g]? = w.heap[g]?
def QYPost (c lo N : Nat) (K : Nat → Prop) (b b' : RB) (n : Nat) (l : List Int) (w : World) (cs : Array Value) (Ad : Option Addr) (ld : List Int) (e : Ending) (w' : World) : Prop := ∃ A k, e = .returned (.slice A n k) ∧ Row w' w.heap.size A l k ∧ STL c lo N K b b' w' cs Ad ld ∧ Below lo w w' ∧ ∀ g, K g → w'.heap[g]? = w.heap[g]?
section
variable {c lo N : Nat} {K : Nat → Prop} {b b' : RB} {w : World} {cs : Array Value}
theorem q_enter (h : ST c lo N K b b' w cs) (hc : c ≤ 900) (hlo : lo ≤ w.heap.size) {who : Int} (hw : (Lit.int .i64 who).wf = true) : Calls Try.prog 12 #[.pointer (some ⟨N, 0, none⟩), .int .i64 who] w (QPost (c + 1) lo N K (enterR b who) b' (askR b who false) w cs) := by
  obtain ⟨M, A1, A2, k1, k2, m, S, h1, h2, h3, h4, hK⟩ := h
  unfold enterR
  by_cases ha : askR b who false = 0
  · rw [if_pos ha, ha]
    have hv := (h3.may who false).trans ha
    refine (penter_yes who hv hw (now_wf h3.now (by omega)) (by have := h3.m; omega) h1).mono ?_
    rintro e w' ⟨rfl, h5, h6⟩
    exact ⟨rfl, ⟨M, A1, A2, k1, k2, m + 1, _, h5, h2.chg (h6.more (fun g e => .inl e)) (fun g hg => .inl hg), h3.enter ha, ⟨.inl rfl, .inl rfl⟩, fun g hg => ⟨Nat.lt_of_lt_of_le (hK g hg).1 h6.size, (hK g hg).2⟩⟩, h6.below h1.low hlo, fun g hg => h6.block g (hK g hg).1 (hK g hg).2⟩
  · rw [if_neg ha]
    have hv := h3.may who false
    refine (penter_no who _ hv ha hw h1).mono ?_
    rintro e w' ⟨rfl, h5, h6⟩
    exact ⟨rfl, ⟨M, A1, A2, k1, k2, m, S, h5, h2.chg (h6.more (fun g e => .inl e)) (fun g hg => .inl hg), h3.more (by omega), ⟨.inl rfl, .inl rfl⟩, fun g hg => ⟨Nat.lt_of_lt_of_le (hK g hg).1 h6.size, (hK g hg).2⟩⟩, h6.below h1.low hlo, fun g hg => h6.block g (hK g hg).1 (hK g hg).2⟩
theorem q_leave (h : ST c lo N K b b' w cs) (hlo : lo ≤ w.heap.size) {who : Int} (hw : (Lit.int .i64 who).wf = true) : Calls Try.prog 20 #[.pointer (some ⟨N, 0, none⟩), .int .i64 who] w (QPost (c + 1) lo N K (leaveR b who) b' (askR b who true) w cs) := by
  obtain ⟨M, A1, A2, k1, k2, m, S, h1, h2, h3, h4, hK⟩ := h
  unfold leaveR
  by_cases ha : askR b who true = 0
  · rw [if_pos ha, ha]
    have hv := (h3.may who true).trans ha
    refine (pleave_yes who hv hw h1).mono ?_
    rintro e w' ⟨rfl, h5, h6⟩
    exact ⟨rfl, ⟨M, A1, A2, k1, k2, m, _, h5, h2.chg (h6.more (fun g e => .inl e)) (fun g hg => .inl hg), (h3.leave ha).more (by omega), ⟨.inl rfl, .inl rfl⟩, fun g hg => ⟨Nat.lt_of_lt_of_le (hK g hg).1 h6.size, (hK g hg).2⟩⟩, h6.below h1.low hlo, fun g hg => h6.block g (hK g hg).1 (hK g hg).2⟩
  · rw [if_neg ha]
    have hv := h3.may who true
    refine (pleave_no who _ hv ha hw h1).mono ?_
    rintro e w' ⟨rfl, h5, h6⟩
    exact ⟨rfl, ⟨M, A1, A2, k1, k2, m, S, h5, h2.chg (h6.more (fun g e => .inl e)) (fun g hg => .inl hg), h3.more (by omega), ⟨.inl rfl, .inl rfl⟩, fun g hg => ⟨Nat.lt_of_lt_of_le (hK g hg).1 h6.size, (hK g hg).2⟩⟩, h6.below h1.low hlo, fun g hg => h6.block g (hK g hg).1 (hK g hg).2⟩
theorem q_retire (h : ST c lo N K b b' w cs) (hc : c ≤ 900) (hlo : lo ≤ w.heap.size) {x : Int} (hx : (Lit.int .i64 x).wf = true) : Calls Try.prog 14 #[.pointer (some ⟨N, 0, none⟩), .int .i64 x] w (QPost (c + 1) lo N K (retireR b x) b' 0 w cs) := by
  obtain ⟨M, A1, A2, k1, k2, m, S, h1, h2, h3, h4, hK⟩ := h
  refine (pretire_any x hx ⟨h3.now.1, by have := h3.now.2; omega⟩ ⟨by have := h3.wl; omega, by have := h3.wl; have := h3.al; omega⟩ hlo h1).mono ?_
  rintro e w' ⟨A1', A2', k1', k2', rfl, h5, h6, h7, h8⟩
  have hF : ∀ g, FB N M A1' A2' k1' k2' g → FB N M A1 A2 k1 k2 g ∨ w.heap.size ≤ g := by
    rintro g (e | e | e | e)
    · exact .inl (.inl e)
    · exact .inl (.inr (.inl e))
    · rcases h7 with h7 | h7 | ⟨g', hg', h7⟩
      · rw [h7] at e; cases e
      · exact .inl (.inr (.inr (.inl (h7.symm.trans e))))
      · rw [h7] at e; cases e; exact .inr hg'
    · rcases h8 with h8 | h8 | ⟨g', hg', h8⟩
      · rw [h8] at e; cases e
      · exact .inl (.inr (.inr (.inr (h8.symm.trans e))))
      · rw [h8] at e; cases e; exact .inr hg'
  exact ⟨rfl, ⟨M, A1', A2', k1', k2', m, S, h5, h2.chg (h6.more (fun g e => .inl e)) (chgK hF), h3.retire x, ⟨.inl rfl, .inl rfl⟩, keepK hK h6.size hF⟩, h6.below h1.low hlo, fun g hg => h6.block g (hK g hg).1 (hK g hg).2⟩
theorem q_ready {Ad : Option Addr} {ld : List Int} (h : STL c lo N K b b' w cs Ad ld) (hc : c ≤ 900) (hlo : lo ≤ w.heap.size) : Calls Try.prog 16 #[.pointer (some ⟨N, 0, none⟩)] w (QYPost (c + 1) lo N K (readyR b (nR b)) b' (nR b) (b.wl.take (nR b)) w cs Ad ld) := by
  obtain ⟨M, A1, A2, k1, k2, m, S, h1, h2, h3, h4, hK⟩ := h
  refine (pready_any (leastR b 64) h3.least (nR b) h3.readyN ⟨by have := h3.wl; omega, h3.al⟩ hlo h1).mono ?_
  rintro e w' ⟨A, k, A1', A2', k1', k2', rfl, h5, h6, h7, h8, h9⟩
  have hF : ∀ g, FB N M A1' A2' k1' k2' g → FB N M A1 A2 k1 k2 g ∨ w.heap.size ≤ g := by
    rintro g (e | e | e | e)
    · exact .inl (.inl e)
    · exact .inl (.inr (.inl e))
    · rcases h8 with h8 | ⟨g', hg', h8⟩
      · rw [h8] at e; cases e
      · rw [h8] at e; cases e; exact .inr hg'
    · rcases h9 with h9 | ⟨g', hg', h9⟩
      · rw [h9] at e; cases e
      · rw [h9] at e; cases e; exact .inr hg'
  exact ⟨A, k, rfl, h5, ⟨M, A1', A2', k1', k2', m, S, h6, h2.chg (h7.more (fun g e => .inl e)) (chgK hF), (h3.ready (nR b)).more (by omega), h4.chg (h7.more (fun g e => .inl e)) (chgK hF), keepK hK h7.size hF⟩, h7.below h1.low hlo, fun g hg => h7.block g (hK g hg).1 (hK g hg).2⟩
theorem q_in (h : ST c lo N K b b' w cs) {who : Int} (hw : (Lit.int .i64 who).wf = true) : Calls Try.prog 19 #[.pointer (some ⟨N, 0, none⟩), .int .i64 who] w fun e w' => e = .returned (.bool (inR b who)) ∧ Below w.heap.size w w' := by
  obtain ⟨M, A1, A2, k1, k2, m, S, h1, h2, h3, h4, hK⟩ := h
  rw [← h3.in_ who]
  exact pin_any who hw h1
theorem q_now (h : ST c lo N K b b' w cs) : Calls Try.prog 24 #[.pointer (some ⟨N, 0, none⟩)] w fun e w' => e = .returned (.int .i64 b.now) ∧ Below w.heap.size w w' := by
  obtain ⟨M, A1, A2, k1, k2, m, S, h1, h2, h3, h4, hK⟩ := h
  exact now_any h1
theorem q_least (h : ST c lo N K b b' w cs) : Calls Try.prog 23 #[.pointer (some ⟨N, 0, none⟩)] w fun e w' => e = .returned (.int .i64 (leastR b 64)) ∧ Below w.heap.size w w' := by
  obtain ⟨M, A1, A2, k1, k2, m, S, h1, h2, h3, h4, hK⟩ := h
  exact pleast_any _ h3.least h1
theorem q_waits (h : ST c lo N K b b' w cs) (hc : c ≤ 900) : Calls Try.prog 21 #[.pointer (some ⟨N, 0, none⟩)] w (OwnPost w b.wl) := by
  obtain ⟨M, A1, A2, k1, k2, m, S, h1, h2, h3, h4, hK⟩ := h
  exact waits_any h1 (by have := h3.wl; omega)
end
/-- A new book, and the document's. -/
theorem ST.fresh {w w' : World} {cs : Array Value} {lo N M : Nat} {ss : Int} (hs : 1 ≤ ss ∧ ss ≤ 64) (h : PB w lo N M none none 0 0 0 ss 0 (fun _ => none) [] []) (hk : ∀ F, RBk F w cs ⟨ss, 0, fun _ => false, fun _ => 0, [], []⟩) : ST 0 lo N (fun _ => False) ⟨ss, 0, fun _ => false, fun _ => 0, [], []⟩ ⟨ss, 0, fun _ => false, fun _ => 0, [], []⟩ w cs :=
  ⟨M, none, none, 0, 0, 0, fun _ => none, h, hk _, ⟨hs, ⟨Int.le_refl _, Int.le_refl _⟩, Nat.le_refl _, Nat.le_refl _, rfl, fun i j hi => by simp at hi, fun j hj => by simp at hj, fun x => by simp, fun k _ _ h => by cases h⟩, ⟨.inl rfl, .inl rfl⟩, fun _ h => h.elim⟩
end Go.Proofs.Ytlffigkjhhcohaa
