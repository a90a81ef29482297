/- The document's table with another cursor. -/
import Derived.Test.YtdbcaiggliiacaaQ1
namespace Go.Proofs.Ytdbcaiggliiacaa
set_option linter.unusedSimpArgs false
open Go.RowKit Go.Maps
set_option linter.unusedVariables false
theorem RE.Row.block {α : Type} {E : RE α} {w : World} {base : Nat} {A : Option Addr} {l : List α} {c : Nat} (h : E.Row w base A l c) (hl : 0 < l.length) : ∃ (g : Nat) (cur : Array Value), A = some ⟨g, 0, none⟩ ∧ base ≤ g ∧ w.heap[g]? = some (.cells cur E.et (0, 0)) ∧ l.length * E.k ≤ cur.size ∧ ∀ (j : Nat) (u : Value), (E.all l)[j]? = some u → cur[j]? = some u := by
  have hr := h.rd
  rcases h with ⟨h, _⟩ | ⟨_, h⟩
  · subst h; simp at hl
  · rcases h.2 with ⟨hv, hn⟩ | ⟨g, cap, cur, hv, hg, hb, h1, h2, h3, _⟩
    · omega
    · cases hv
      refine ⟨g, cur, rfl, hg, hb, ?_, fun j u hj => ?_⟩
      · rw [h3]; exact Nat.mul_le_mul_right _ h1
      · rcases hr with hr | ⟨b, off, e, hlt, hc⟩
        · rw [hr] at hj; simp at hj
        · cases e
          have := hc j u hj
          rw [Nat.zero_add] at this
          simpa [World.cell?, hb] using this
theorem cells4 {W : World} {g : Nat} {u v x y : Value} {t : TypeId} (z : W.heap[g]? = some (.cells #[u, v, x, y] t (0, 0))) :
    W.cell? ⟨g, 0, none⟩ = some u ∧ W.cell? ⟨g, 1, none⟩ = some v ∧ W.cell? ⟨g, 2, none⟩ = some x ∧ W.cell? ⟨g, 3, none⟩ = some y := by
  simp [World.cell?, z]
theorem slot4 {W : World} {g i : Nat} {cur : Array Value} {t : TypeId} (z : W.heap[g]? = some (.cells cur t (0, 0))) (h : i * 4 + 3 < cur.size) :
    (W.cell? ⟨g, i * 4, none⟩).isSome = true ∧ (W.cell? ⟨g, i * 4 + 1, none⟩).isSome = true ∧ (W.cell? ⟨g, i * 4 + 2, none⟩).isSome = true ∧ (W.cell? ⟨g, i * 4 + 3, none⟩).isSome = true ∧
    W.frozen? ⟨g, i * 4, none⟩ = false ∧ W.frozen? ⟨g, i * 4 + 1, none⟩ = false ∧ W.frozen? ⟨g, i * 4 + 2, none⟩ = false ∧ W.frozen? ⟨g, i * 4 + 3, none⟩ = false := by
  simp [World.cell?, World.frozen?, z]
  omega
theorem RE.all_inv {α : Type} (E : RE α) {xs : List α} {j : Nat} {u : Value} (h : (E.all xs)[j]? = some u) : ∃ i x r, xs[i]? = some x ∧ j = i * E.k + r ∧ r < E.k ∧ (E.cs x)[r]? = some u := by
  induction xs generalizing j with
  | nil => simp [RE.all] at h
  | cons y ys ih =>
    rw [RE.all_cons] at h
    by_cases hj : j < E.k
    · rw [List.getElem?_append_left (by rw [E.len]; exact hj)] at h
      exact ⟨0, y, j, rfl, by omega, hj, h⟩
    · rw [List.getElem?_append_right (by rw [E.len]; omega), E.len] at h
      obtain ⟨i, x, r, h1, h2, h3, h4⟩ := ih h
      exact ⟨i + 1, x, r, by simpa using h1, by rw [Nat.succ_mul]; omega, h3, h4⟩
theorem RE.all_set {α : Type} (E : RE α) {xs : List α} {p j : Nat} {y : α} {u : Value} (h : (E.all (xs.set p y))[j]? = some u) : (∃ r, j = p * E.k + r ∧ r < E.k ∧ (E.cs y)[r]? = some u) ∨ ((j < p * E.k ∨ p * E.k + E.k ≤ j) ∧ (E.all xs)[j]? = some u) := by
  obtain ⟨i, x, r, h1, h2, h3, h4⟩ := E.all_inv h
  rw [List.getElem?_set] at h1
  by_cases hi : p = i
  · subst hi
    rw [if_pos rfl] at h1
    split at h1
    · cases h1; exact .inl ⟨r, h2, h3, h4⟩
    · cases h1
  · rw [if_neg hi] at h1
    refine .inr ⟨?_, by rw [h2]; exact E.all_get h1 h4⟩
    rcases Nat.lt_or_gt_of_ne hi with q | q
    · right
      have := Nat.mul_le_mul_right E.k (show p + 1 ≤ i by omega)
      rw [Nat.succ_mul] at this; omega
    · left
      have := Nat.mul_le_mul_right E.k (show i + 1 ≤ p by omega)
      rw [Nat.succ_mul] at this; omega
theorem set4 {W : World} {g i : Nat} {cur : Array Value} {t : TypeId} (z : W.heap[g]? = some (.cells cur t (0, 0))) (h : i * 4 + 3 < cur.size) (a b c d : Value) {j : Nat} :
    ((((W.setCell ⟨g, i * 4, none⟩ a).setCell ⟨g, i * 4 + 1, none⟩ b).setCell ⟨g, i * 4 + 2, none⟩ c).setCell ⟨g, i * 4 + 3, none⟩ d).cell? ⟨g, j, none⟩ = if j = i * 4 then some a else if j = i * 4 + 1 then some b else if j = i * 4 + 2 then some c else if j = i * 4 + 3 then some d else cur[j]? := by
  have hh : ((((W.setCell ⟨g, i * 4, none⟩ a).setCell ⟨g, i * 4 + 1, none⟩ b).setCell ⟨g, i * 4 + 2, none⟩ c).setCell ⟨g, i * 4 + 3, none⟩ d).heap[g]? = some (.cells ((((cur.setIfInBounds (i * 4) a).setIfInBounds (i * 4 + 1) b).setIfInBounds (i * 4 + 2) c).setIfInBounds (i * 4 + 3) d) t (0, 0)) := by
    simp [World.setCell, Array.getElem?_modify, z]
  have s0 : i * 4 < cur.size := by omega
  have s1 : i * 4 + 1 < cur.size := by omega
  have s2 : i * 4 + 2 < cur.size := by omega
  simp only [World.cell?, hh, Array.getElem?_setIfInBounds, Array.size_setIfInBounds, s0, s1, s2, h, if_true]
  by_cases j0 : j = i * 4
  · subst j0; simp
  by_cases j1 : j = i * 4 + 1
  · subst j1; simp
  by_cases j2 : j = i * 4 + 2
  · subst j2; simp
  by_cases j3 : j = i * 4 + 3
  · subst j3; simp
  have k0 : ¬ i * 4 = j := fun e => j0 e.symm
  have k1 : ¬ i * 4 + 1 = j := fun e => j1 e.symm
  have k2 : ¬ i * 4 + 2 = j := fun e => j2 e.symm
  have k3 : ¬ i * 4 + 3 = j := fun e => j3 e.symm
  simp [j0, j1, j2, j3, k0, k1, k2, k3]
/-- A table in memory of its own. -/
def NewQ (w : World) (q : Nat) (xs : List RC) (e : Ending) (w' : World) : Prop := ∃ a c, e = .returned (.slice (some a) q c) ∧ EQ.Rd w' (some a) xs ∧ (0 < xs.length → w.heap.size ≤ a.block) ∧ Below w.heap.size w w'
set_option maxHeartbeats 1000000 in
theorem with_any {w : World} {A : Option Addr} {xs : List RC} (h : EQ.Rd w A xs) (q cap : Nat) (hq : xs.length = q) (hq2 : q ≤ 1000000) (p : Nat) (hp : p < q) (f t : ByteArray) (e c : Bool) :
    Calls Try.prog 39 #[.slice A q cap, .int .i64 ((p : Int) + 1), .agg #[.string f, .string t, .bool e, .bool c]] w (NewQ w q (xs.set p (f, t, e, c))) := by
  have HL := Lib.hid hq
  have HA := Lib.hid h
  have B0 := Lib.hid (bel_alloc (alb w (.cells #[.string f, .string t, .bool e, .bool c] 67)) (.cells #[] 67))
  have R0 : Hid (EQ.Row ((w.alloc (.cells #[.string f, .string t, .bool e, .bool c] 67)).alloc (.cells #[] 67)) (w.heap.size + 1) (some ⟨w.heap.size + 1, 0, none⟩) [] 0) := Lib.hid RE.Row.nil
  have HA0 := Lib.hid (h.later B0.out)
  have Z0 : Hid (((w.alloc (.cells #[.string f, .string t, .bool e, .bool c] 67)).alloc (.cells #[] 67)).heap[w.heap.size]? = some (.cells #[.string f, .string t, .bool e, .bool c] 67 (0, 0))) := Lib.hid (keep_bel (alb _ _) (heap_alloc_new w _))
  have i0 : (0 : Int) ≤ (p : Int) := by omega
  have i1 : (p : Int) < (q : Int) := by omega
  have i4 : (p : Int) + 1 - 1 = (p : Int) := by omega
  clear h hq
  go_enter Try.func39, Try.ntmps39
  go_wp2_with (first
    | (at_builtin; refine RE.wpList_put EQ _ rfl (.tmp 8) (.tmp 9) rfl (base := w.heap.size + 1) (some ⟨w.heap.size + 1, 0, none⟩) 0 0 [] A q cap xs rfl rfl R0.out rfl (by omega) (by simp) HL.out (by omega) HA0.out ?_; intro A1 c1 w1 r1 g1 o1; go_loud (have R1 : Hid (EQ.Row w1 (w.heap.size + 1) A1 xs c1) := Lib.hid (by simpa using r1); have B1a := Lib.hid (R0.out.below (lo := w.heap.size + 1) g1 (Nat.le_refl _) (by simp)); have B1 := Lib.hid (B0.out.trans (B1a.out.mono (by omega))); obtain ⟨g, cur, rfl, hg, hb, hsz, hcur⟩ := R1.out.block (by rw [HL.out]; omega); have HB := Lib.hid hb; have HG := Lib.hid hg; have HS := Lib.hid hsz; have HC := Lib.hid hcur; have Z1 := B1a.out.block w.heap.size (by omega); have z := Z1.trans Z0.out; obtain ⟨z0, z1, z2, z3⟩ := cells4 z; obtain ⟨yy, hyy⟩ : ∃ y, xs[p]? = some y := ⟨_, List.getElem?_eq_getElem (by rw [HL.out]; omega)⟩; obtain ⟨b9, o9, e9, _, w0, w1', w2, w3⟩ := eq_at R1.out.rd hyy; cases e9; simp only [Nat.zero_add] at w0 w1' w2 w3; obtain ⟨y0, y1, y2, y3, x0, x1, x2, x3⟩ := slot4 hb (show p * 4 + 3 < cur.size by have h4 : EQ.k = 4 := rfl; rw [h4, HL.out] at hsz; omega); clear r1 g1 o1 hg hb hsz hcur Z1 z y0 y1 y2 y3 hyy))
    | fail)
  go_ret
  have hc4 := Chg.set (D := fun x => x = g) w1 (l := g) (o := p * 4) (.string f) rfl
  have hc5 := ((hc4.trans (Chg.set (D := fun x => x = g) _ (l := g) (o := p * 4 + 1) (.string t) rfl) (fun x e => .inl e)).trans (Chg.set (D := fun x => x = g) _ (l := g) (o := p * 4 + 2) (.bool e) rfl) (fun x e => .inl e)).trans (Chg.set (D := fun x => x = g) _ (l := g) (o := p * 4 + 3) (.bool c) rfl) (fun x e => .inl e)
  have hsz : p * 4 + 3 < cur.size := by have := HS.out; have h4 : EQ.k = 4 := rfl; rw [h4, HL.out] at this; omega
  refine ⟨⟨g, 0, none⟩, c1, rfl, .inr ⟨g, 0, rfl, ?_, fun j u hj => ?_⟩, fun _ => by have := HG.out; simp only; omega, B1.out.trans (hc5.below (fun x e => by have := HG.out; omega) B1.out.size)⟩
  · exact Nat.lt_of_lt_of_le (Array.getElem?_eq_some_iff.1 HB.out).1 hc5.size
  · rw [Nat.zero_add, set4 HB.out hsz]
    rcases EQ.all_set hj with ⟨r, hr, hr4, hu⟩ | ⟨hn, hu⟩
    · have h4 : EQ.k = 4 := rfl
      rw [h4] at hr hr4
      match r, hr4, hu with
      | 0, _, hu => simp [EQ] at hu; subst hu; simp [hr]
      | 1, _, hu => simp [EQ] at hu; subst hu; simp [hr]
      | 2, _, hu => simp [EQ] at hu; subst hu; simp [hr]
      | 3, _, hu => simp [EQ] at hu; subst hu; simp [hr]
    · have h4 : EQ.k = 4 := rfl
      rw [h4] at hn
      rw [if_neg (by omega), if_neg (by omega), if_neg (by omega), if_neg (by omega)]
      exact HC.out j u hu
end Go.Proofs.Ytdbcaiggliiacaa
