/- Messages that are put in order where they lie. -/
import Derived.Test.YtdbnkeihnoglcaaW0
import Derived.Test.YtdbnkeihnoglcaaK1
import Derived.Test.YtdbnkeihnoglcaaD1
namespace Go.Proofs.Ytdbnkeihnoglcaa
set_option linter.unusedSimpArgs false
open Go.RowKit Go.Maps
set_option linter.unusedVariables false
/-- Messages lie in a block, and nothing but that block was changed since. -/
structure InP (w0 : World) (b off : Nat) (xs : List MG) (W : World) : Prop where
  obj : ∃ cs, W.heap[b]? = some (.cells cs 31 (0, 0)) ∧ ∀ j u, (EG.all xs)[j]? = some u → cs[off + j]? = some u
  chg : Chg (fun g => g = b) w0 W
theorem InP.later {w0 : World} {b off : Nat} {xs : List MG} {W W2 : World} (h : InP w0 b off xs W) (k : Below W.heap.size W W2) : InP w0 b off xs W2 := by
  obtain ⟨cs, z, hc⟩ := h.obj
  exact ⟨⟨cs, keep_bel k z, hc⟩, h.chg.trans (Chg.of_below k) (fun g hg => .inl hg)⟩
theorem InP.trans {w0 w1 w2 : World} {b off : Nat} {xs ys : List MG} (h : InP w0 b off xs w1) (k : InP w1 b off ys w2) : InP w0 b off ys w2 :=
  ⟨k.obj, h.chg.trans k.chg (fun g hg => .inl hg)⟩
theorem InP.refl {w0 : World} {b off : Nat} {xs : List MG} {W : World} (h : InP w0 b off xs W) : InP W b off xs W := ⟨h.obj, Chg.refl _ _⟩
theorem InP.rd {w0 : World} {b off : Nat} {xs : List MG} {W : World} (h : InP w0 b off xs W) : EG.Rd W (some ⟨b, off, none⟩) xs := by
  obtain ⟨cs, z, hc⟩ := h.obj
  refine .inr ⟨b, off, rfl, ?_, fun j u hu => ?_⟩
  · rcases Nat.lt_or_ge b W.heap.size with h' | h'
    · exact h'
    · rw [Array.getElem?_eq_none h'] at z; cases z
  · simp [World.cell?, z, hc j u hu]
theorem InP.frz {w0 : World} {b off : Nat} {xs : List MG} {W : World} (h : InP w0 b off xs W) (p : Nat) : W.frozen? ⟨b, p, none⟩ = false := by
  obtain ⟨cs, z, hc⟩ := h.obj
  simp [World.frozen?, z]
def six (cs : Array Value) (o : Nat) (y : MG) : Array Value := (((((cs.setIfInBounds o (.int .u8 y.kd)).setIfInBounds (o + 1) (.int .i64 y.sq)).setIfInBounds (o + 2) (.string y.ky)).setIfInBounds (o + 3) (.string y.to)).setIfInBounds (o + 4) (.string y.vl)).setIfInBounds (o + 5) (.int .u64 y.dl)
theorem six_far (cs : Array Value) (o : Nat) (y : MG) (p : Nat) (h : p < o ∨ o + 6 ≤ p) : (six cs o y)[p]? = cs[p]? := by
  unfold six
  simp only [Array.getElem?_setIfInBounds, Array.size_setIfInBounds]
  rw [if_neg (by omega), if_neg (by omega), if_neg (by omega), if_neg (by omega), if_neg (by omega), if_neg (by omega)]
theorem six_at (cs : Array Value) (o : Nat) (y : MG) (h : o + 6 ≤ cs.size) {r : Nat} {u : Value} (hu : (EG.cs y)[r]? = some u) : (six cs o y)[o + r]? = some u := by
  unfold six
  simp only [Array.getElem?_setIfInBounds, Array.size_setIfInBounds]
  match r, hu with
  | 0, hu => simp [EG] at hu; subst hu; simp; omega
  | 1, hu => simp [EG] at hu; subst hu; simp; omega
  | 2, hu => simp [EG] at hu; subst hu; simp; omega
  | 3, hu => simp [EG] at hu; subst hu; simp; omega
  | 4, hu => simp [EG] at hu; subst hu; simp; omega
  | 5, hu => simp [EG] at hu; subst hu; simp; omega
  | r + 6, hu => simp [EG] at hu
abbrev put6 (W : World) (b o : Nat) (y : MG) : World := (((((W.setCell ⟨b, o, none⟩ (.int .u8 y.kd)).setCell ⟨b, o + 1, none⟩ (.int .i64 y.sq)).setCell ⟨b, o + 2, none⟩ (.string y.ky)).setCell ⟨b, o + 3, none⟩ (.string y.to)).setCell ⟨b, o + 4, none⟩ (.string y.vl)).setCell ⟨b, o + 5, none⟩ (.int .u64 y.dl)
theorem put6_obj {W : World} {b o : Nat} {cs : Array Value} {t : TypeId} {fr : Nat × Nat} (z : W.heap[b]? = some (.cells cs t fr)) (y : MG) : (put6 W b o y).heap[b]? = some (.cells (six cs o y) t fr) := by
  simp [World.setCell, Array.getElem?_modify, z, six]
theorem put6_chg (W : World) (b o : Nat) (y : MG) : Chg (fun g => g = b) W (put6 W b o y) := by
  have h : ∀ (V : World) (p : Nat) (v : Value), Chg (fun g => g = b) V (V.setCell ⟨b, p, none⟩ v) := fun V p v => Chg.set V v rfl
  have t : ∀ {A B C : World}, Chg (fun g => g = b) A B → Chg (fun g => g = b) B C → Chg (fun g => g = b) A C := fun x y => x.trans y (fun g hg => .inl hg)
  exact t (t (t (t (t (h W _ _) (h _ _ _)) (h _ _ _)) (h _ _ _)) (h _ _ _)) (h _ _ _)
theorem InP.set {w0 : World} {b off : Nat} {xs : List MG} {W : World} (h : InP w0 b off xs W) {i : Nat} (hi : i < xs.length) (y : MG) : InP w0 b off (xs.set i y) (put6 W b (off + i * 6) y) := by
  obtain ⟨cs, z, hc⟩ := h.obj
  refine ⟨⟨six cs (off + i * 6) y, put6_obj z y, fun j u hj => ?_⟩, h.chg.trans (put6_chg W b _ y) (fun g hg => .inl hg)⟩
  obtain ⟨k, r, x, h1, rfl, h3⟩ := RE.all_at EG hj
  have ek : EG.k = 6 := rfl
  rw [ek]
  have hr : r < 6 := by
    have q := (List.getElem?_eq_some_iff.1 h3).1
    rw [EG.len, ek] at q; exact q
  have hsz : off + i * 6 + 6 ≤ cs.size := by
    have hx : xs[i]? = some xs[i] := List.getElem?_eq_getElem hi
    have q := hc _ _ (EG.all_get hx (j := 5) (u := .int .u64 xs[i].dl) rfl)
    rw [ek] at q
    have := (Array.getElem?_eq_some_iff.1 q).1
    omega
  by_cases e : k = i
  · subst e
    rw [List.getElem?_set_self hi] at h1
    cases h1
    rw [← Nat.add_assoc]
    exact six_at cs (off + k * 6) y hsz h3
  · rw [List.getElem?_set_ne (Ne.symm e)] at h1
    have q := hc _ _ (EG.all_get h1 h3)
    rw [ek] at q
    rw [six_far cs (off + i * 6) y _ (by omega)]
    exact q
theorem inp_of_row {w : World} {base : Nat} {A : Option Addr} {l : List MG} {c : Nat} (h : EG.Row w base A l c) {x : MG} (hx : x ∈ l) : ∃ b, A = some ⟨b, 0, none⟩ ∧ base ≤ b ∧ b < w.heap.size ∧ InP w b 0 l w ∧ l.length ≤ c ∧ c ≤ maxLen := by
  rcases h with ⟨e, _⟩ | ⟨h0, h1, h2⟩
  · rw [e] at hx; cases hx
  · rcases h2 with ⟨hv, hn⟩ | ⟨g, cap, cur, hv, hb, hz, h3, h4, h5, h6⟩
    · injection hv with e1 e2 e3; omega
    · cases hv
      refine ⟨g, rfl, hb, ?_, ⟨⟨cur, hz, fun j u hu => ?_⟩, Chg.refl _ _⟩, h3, h4⟩
      · rcases Nat.lt_or_ge g w.heap.size with h' | h'
        · exact h'
        · rw [Array.getElem?_eq_none h'] at hz; cases hz
      · rw [Nat.zero_add]
        rw [← h6, List.getElem?_take] at hu
        split at hu
        · simpa using hu
        · cases hu
end Go.Proofs.Ytdbnkeihnoglcaa
