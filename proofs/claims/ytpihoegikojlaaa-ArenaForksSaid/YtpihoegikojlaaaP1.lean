/- The program's arena, with the blocks that it may write; what only reads it. -/
import Derived.Test.YtpihoegikojlaaaB2
import Derived.Test.YtpihoegikojlaaaX1
namespace Go.Proofs.Ytpihoegikojlaaa
set_option linter.unusedSimpArgs false
open Go.RowKit Go.Maps
set_option linter.unusedVariables false
variable {F : Nat → Prop}

theorem Row.bel {w w' : World} {base : Nat} {A : Option Addr} {l : List Int} {c : Nat} (h : Row w base A l c) (hb : Below w.heap.size w w') : Row w' base A l c := by
  refine h.kept (bel_grown hb none) ?_
  cases fpr A c <;> simp
theorem ob_eq (A : Option Addr) (n c : Nat) : (Value.slice A n c).ownBlock = A.map (·.block) := by cases A <;> rfl
/-- The blocks that an arena may write. -/
def FA (N : Nat) (A G : Option Addr) (d : Nat) (g : Nat) : Prop := g = N ∨ A.map (·.block) = some g ∨ fpr G d = some g
/-- What the places' cells say. -/
def PL (b : AB) (pl : List Value) : Prop := ∀ i, i < b.top → pl[i * 2]? = some (.int .i64 (b.vl (i + 1))) ∧ pl[i * 2 + 1]? = some (.bool (b.tk (i + 1)))
/-- The program's arena at N. -/
structure PA (w : World) (lo N : Nat) (A G : Option Addr) (c d : Nat) (b : AB) : Prop where
  hN : lo ≤ N ∧ N < w.heap.size
  c0 : w.cell? ⟨N, 0, none⟩ = some (.int .i64 b.most)
  c1 : w.cell? ⟨N, 1, none⟩ = some (.slice A b.top c)
  c2 : w.cell? ⟨N, 2, none⟩ = some (.slice G b.bk.length d)
  fz : ∀ j, w.frozen? ⟨N, j, none⟩ = false
  pl : ∃ pl, w.ownsRow lo 80 2 (.slice A b.top c) b.top pl ∧ PL b pl
  gs : Row w lo G b.bk d
  d1 : A.map (·.block) ≠ some N
  d2 : fpr G d ≠ some N
  d3 : ∀ g, A.map (·.block) = some g → fpr G d ≠ some g
  d4 : A = none ∨ 0 < b.top
theorem PA.later {w w' : World} {lo N : Nat} {A G : Option Addr} {c d : Nat} {b : AB} (h : PA w lo N A G c d b) (hb : Below w.heap.size w w') : PA w' lo N A G c d b := by
  obtain ⟨pl, hp, hq⟩ := h.pl
  exact ⟨⟨h.hN.1, Nat.lt_of_lt_of_le h.hN.2 hb.size⟩, bel_later hb h.c0, bel_later hb h.c1, bel_later hb h.c2, fun j => (hb.frozen (p := ⟨N, j, none⟩) h.hN.2).trans (h.fz j), ⟨pl, own_bel hp hb, hq⟩, h.gs.bel hb, h.d1, h.d2, h.d3, h.d4⟩
/-- An arena as it may be. -/
structure IV (b : AB) : Prop where
  m0 : 1 ≤ b.most
  m1 : b.most ≤ 60
  tp : (b.top : Int) ≤ b.most
  bk : ∀ x ∈ b.bk, ∃ k : Nat, x = k ∧ 1 ≤ k ∧ k ≤ b.top ∧ b.tk k = false
  nd : b.bk.Nodup
  cn : cnt b.tk 64 + b.bk.length = b.top
  out : ∀ k, b.tk k = true → 1 ≤ k ∧ k ≤ b.top
theorem IV.top60 {b : AB} (h : IV b) : b.top ≤ 60 := by have := h.tp; have := h.m1; omega
theorem IV.bk60 {b : AB} (h : IV b) : b.bk.length ≤ 60 := by have := h.top60; have := h.cn; omega
section
variable {w : World} {lo N : Nat} {A G : Option Addr} {c d : Nat} {b : AB}
theorem PA.fin (h : PA w lo N A G c d b) : ∀ g, FA N A G d g → g < w.heap.size := by
  rintro g (e | e | e)
  · rw [e]; exact h.hN.2
  · obtain ⟨pl, hp, _⟩ := h.pl
    exact (hp.lt g (by rw [ob_eq]; exact e)).2
  · exact (h.gs.fp_lt e).2
theorem PA.low (h : PA w lo N A G c d b) : ∀ g, FA N A G d g → lo ≤ g := by
  rintro g (e | e | e)
  · rw [e]; exact h.hN.1
  · obtain ⟨pl, hp, _⟩ := h.pl
    exact (hp.lt g (by rw [ob_eq]; exact e)).1
  · exact (h.gs.fp_lt e).1
theorem plen (h : PA w lo N A G c d b) (iv : IV b) : Calls Try.prog 15 #[.pointer (some ⟨N, 0, none⟩)] w fun e w' => e = .returned (.int .i64 (cnt b.tk 64)) ∧ Below w.heap.size w w' := by
  have e : (cnt b.tk 64 : Int) = (b.top : Int) - b.bk.length := by have := iv.cn; omega
  rw [e]
  exact lenI_at N b.top b.bk.length c d A G w h.c1 h.c2 (by have := iv.top60; omega) (by have := iv.bk60; omega)
theorem pleft (h : PA w lo N A G c d b) (iv : IV b) : Calls Try.prog 9 #[.pointer (some ⟨N, 0, none⟩)] w fun e w' => e = .returned (.int .i64 (b.most - cnt b.tk 64)) ∧ Below w.heap.size w w' := by
  have e : (cnt b.tk 64 : Int) = (b.top : Int) - b.bk.length := by have := iv.cn; omega
  rw [e]
  exact leftI_at N b.top b.bk.length c d b.most A G w h.c0 h.c1 h.c2 (by have := iv.top60; omega) (by have := iv.bk60; omega) (by have := iv.m0; omega) (by have := iv.m1; omega)
theorem ptop (h : PA w lo N A G c d b) : Calls Try.prog 32 #[.pointer (some ⟨N, 0, none⟩)] w fun e w' => e = .returned (.int .i64 b.top) ∧ w = w' := topI_at N b.top c A w h.c1
theorem IV.there {b : AB} (iv : IV b) {i : Int} (h : thereD b i = true) : ∃ k : Nat, i = (k : Int) + 1 ∧ k < b.top ∧ b.tk (k + 1) = true := by
  obtain ⟨h1, h2, h3⟩ := there_in h
  obtain ⟨h4, h5⟩ := iv.out _ h3
  refine ⟨i.toNat - 1, by omega, by omega, ?_⟩
  rw [Nat.sub_add_cancel h4]; exact h3
theorem IV.there_not {b : AB} (iv : IV b) {i : Int} (h : thereD b i = false) : i < 1 ∨ (b.top : Int) < i ∨ ∃ k : Nat, i = (k : Int) + 1 ∧ k < b.top ∧ b.tk (k + 1) = false := by
  by_cases h1 : i < 1
  · exact .inl h1
  · by_cases h2 : (b.top : Int) < i
    · exact .inr (.inl h2)
    · refine .inr (.inr ⟨i.toNat - 1, by omega, by omega, ?_⟩)
      have ht := iv.top60
      rw [Nat.sub_add_cancel (by omega)]
      have h3 := there_nat (b := b) (k := i.toNat) (by omega) (by omega)
      rw [Int.toNat_of_nonneg (by omega)] at h3
      rw [← h3]; exact h
/-- The place's block. -/
theorem PA.place (h : PA w lo N A G c d b) {k : Nat} (hk : k < b.top) : ∃ g, A = some ⟨g, 0, none⟩ ∧ lo ≤ g ∧ g < w.heap.size ∧ w.cell? ⟨g, k * 2, none⟩ = some (.int .i64 (b.vl (k + 1))) ∧ w.cell? ⟨g, k * 2 + 1, none⟩ = some (.bool (b.tk (k + 1))) := by
  obtain ⟨pl, hp, hq⟩ := h.pl
  obtain ⟨g, c', hA, hbg, hgl⟩ := hp.form (by omega)
  obtain ⟨rfl, rfl⟩ : A = some ⟨g, 0, none⟩ ∧ c = c' := by injection hA with a b c; exact ⟨a, c⟩
  exact ⟨g, rfl, hbg, hgl, by rw [hp.cellAt _ (by omega)]; exact (hq k hk).1, by rw [hp.cellAt _ (by omega)]; exact (hq k hk).2⟩
set_option maxRecDepth 100000 in
theorem pat_in (h : PA w lo N A G c d b) (iv : IV b) {i : Int} (ht : thereD b i = true) : Calls Try.prog 38 #[.pointer (some ⟨N, 0, none⟩), .int .i64 i] w fun e w' => (∃ g k, i = ((k : Nat) : Int) + 1 ∧ k < b.top ∧ A = some ⟨g, 0, none⟩ ∧ e = .returned (.pointer (some ⟨g, k * 2, none⟩))) ∧ w = w' := by
  obtain ⟨k, rfl, hk, hkt⟩ := iv.there ht
  obtain ⟨g, rfl, h1, h2, h3, h4⟩ := h.place hk
  rw [hkt] at h4
  exact (atI_in N b.top c g k w h.c1 hk (by have := iv.top60; omega) h4).mono fun e w' ⟨e1, e2⟩ => ⟨⟨g, k, rfl, hk, rfl, e1⟩, e2⟩
set_option maxRecDepth 100000 in
theorem pat_out (h : PA w lo N A G c d b) (iv : IV b) {i : Int} (ht : thereD b i = false) : Calls Try.prog 38 #[.pointer (some ⟨N, 0, none⟩), .int .i64 i] w fun e w' => e = .returned (.pointer none) ∧ w = w' := by
  have hn := iv.top60
  rcases iv.there_not ht with h1 | h1 | ⟨k, rfl, hk, hkt⟩
  · have c1 := h.c1
    clear h ht
    go_enter Try.func38, Try.ntmps38
    go_wp2
    all_goals
      go_ret
      exact ⟨rfl, rfl⟩
  · have c1 := h.c1
    have h2 : ¬ i < 1 := by omega
    clear h ht
    go_enter Try.func38, Try.ntmps38
    go_wp2
    all_goals
      go_ret
      exact ⟨rfl, rfl⟩
  · obtain ⟨g, rfl, h1, h2, h3, h4⟩ := h.place hk
    rw [hkt] at h4
    have c1 := h.c1
    have a1 : ¬ ((k : Int) + 1 < 1) := by omega
    have a2 : ¬ ((b.top : Int) < (k : Int) + 1) := by omega
    have a3 : (k : Int) + 1 - 1 = k := by omega
    have a4 : (k : Int) < b.top := by omega
    have a5 : (0 : Int) ≤ k := by omega
    clear h ht h3
    go_enter Try.func38, Try.ntmps38
    go_wp2
    all_goals
      go_ret
      exact ⟨rfl, rfl⟩
set_option maxRecDepth 100000 in
theorem pget_in (h : PA w lo N A G c d b) (iv : IV b) {i : Int} (ht : thereD b i = true) : Calls Try.prog 22 #[.pointer (some ⟨N, 0, none⟩), .int .i64 i] w fun e w' => e = .returned (.tuple #[.int .i64 (b.vl i.toNat), .bool true]) ∧ w = w' := by
  obtain ⟨k, rfl, hk, hkt⟩ := iv.there ht
  obtain ⟨g, rfl, h1, h2, h3, h4⟩ := h.place hk
  rw [hkt] at h4
  have e : ((k : Int) + 1).toNat = k + 1 := by omega
  rw [e]
  exact getI_in N b.top c g k _ w h.c1 hk (by have := iv.top60; omega) h4 h3
set_option maxRecDepth 100000 in
theorem pget_out (h : PA w lo N A G c d b) (iv : IV b) {i : Int} (ht : thereD b i = false) : Calls Try.prog 22 #[.pointer (some ⟨N, 0, none⟩), .int .i64 i] w fun e w' => e = .returned (.tuple #[.int .i64 0, .bool false]) ∧ w = w' := by
  have C := Lib.hid (pat_out h iv ht)
  clear h iv ht
  go_enter Try.func22, Try.ntmps22
  go_wp2_with fail
  refine C.out.mono ?_
  rintro e w1 ⟨rfl, rfl⟩
  go_wp2
  refine bodyPost_ret (v := .tuple #[.int .i64 0, .bool false]) (by simp [results, Try.results22, go_sem]; try rfl) rfl ⟨rfl, rfl⟩
end
end Go.Proofs.Ytpihoegikojlaaa
