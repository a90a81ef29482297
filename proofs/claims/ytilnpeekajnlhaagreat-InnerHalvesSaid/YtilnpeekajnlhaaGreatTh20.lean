/- Texts of the proof, one behind the other. -/
import Derived.Test.YtilnpeekajnlhaaGreatTh16
import Derived.Test.YtilnpeekajnlhaaGreatTh02
import Derived.Test.YtilnpeekajnlhaaGreatTh06
import Derived.Lib.AppendZeros
set_option linter.unusedVariables false
set_option linter.unusedSimpArgs false
namespace Go.Proofs.YtilnpeekajnlhaaGreat
open Go.RowKit Go.Maps
/-- Messages lie in a block, and nothing but that block was changed since. -/
structure InP (w0 : World) (b off : Nat) (xs : List MG) (W : World) : Prop where
  obj : ∃ cs, W.heap[b]? = some (.cells cs 50 (0, 0)) ∧ ∀ j u, (EG.all xs)[j]? = some u → cs[off + j]? = some u
  chg : Chg (fun g => g = b) w0 W
theorem InP.later {w0 : World} {b off : Nat} {xs : List MG} {W W2 : World} (h : InP w0 b off xs W) (k : Below W.heap.size W W2) : InP w0 b off xs W2 := by
  obtain ⟨cs, z, hc⟩ := h.obj
  exact ⟨⟨cs, keep_bel k z, hc⟩, h.chg.trans (Chg.of_below k) (fun g hg => .inl hg)⟩
theorem InP.trans {w0 w1 w2 : World} {b off : Nat} {xs ys : List MG} (h : InP w0 b off xs w1) (k : InP w1 b off ys w2) : InP w0 b off ys w2 :=
  ⟨k.obj, h.chg.trans k.chg (fun g hg => .inl hg)⟩
theorem InP.refl {w0 : World} {b off : Nat} {xs : List MG} {W : World} (h : InP w0 b off xs W) : InP W b off xs W := ⟨h.obj, Chg.refl _ _⟩
theorem InP.rd {w0 : World} {b off : Nat} {xs : List MG} {W : World} (h : InP w0 b off xs W) : EG.Rd W (some ⟨b, off, none⟩) xs := by
  obtain ⟨cs, z, hc⟩ := h.obj
  refine .inr ⟨b, off, rfl, ?_, fun j u hu => ?_⟩
  · rcases Nat.lt_or_ge b W.heap.size with h' | h'
    · exact h'
    · rw [Array.getElem?_eq_none h'] at z; cases z
  · simp [World.cell?, z, hc j u hu]
theorem InP.frz {w0 : World} {b off : Nat} {xs : List MG} {W : World} (h : InP w0 b off xs W) (p : Nat) : W.frozen? ⟨b, p, none⟩ = false := by
  obtain ⟨cs, z, hc⟩ := h.obj
  simp [World.frozen?, z]
def six (cs : Array Value) (o : Nat) (y : MG) : Array Value := (((((cs.setIfInBounds o (.int .u8 y.kd)).setIfInBounds (o + 1) (.int .i64 y.sq)).setIfInBounds (o + 2) (.string y.ky)).setIfInBounds (o + 3) (.string y.to)).setIfInBounds (o + 4) (.string y.vl)).setIfInBounds (o + 5) (.int .u64 y.dl)
theorem six_far (cs : Array Value) (o : Nat) (y : MG) (p : Nat) (h : p < o ∨ o + 6 ≤ p) : (six cs o y)[p]? = cs[p]? := by
  unfold six
  simp only [Array.getElem?_setIfInBounds, Array.size_setIfInBounds]
  rw [if_neg (by omega), if_neg (by omega), if_neg (by omega), if_neg (by omega), if_neg (by omega), if_neg (by omega)]
theorem six_at (cs : Array Value) (o : Nat) (y : MG) (h : o + 6 ≤ cs.size) {r : Nat} {u : Value} (hu : (EG.cs y)[r]? = some u) : (six cs o y)[o + r]? = some u := by
  unfold six
  simp only [Array.getElem?_setIfInBounds, Array.size_setIfInBounds]
  match r, hu with
  | 0, hu => simp [EG] at hu; subst hu; simp; omega
  | 1, hu => simp [EG] at hu; subst hu; simp; omega
  | 2, hu => simp [EG] at hu; subst hu; simp; omega
  | 3, hu => simp [EG] at hu; subst hu; simp; omega
  | 4, hu => simp [EG] at hu; subst hu; simp; omega
  | 5, hu => simp [EG] at hu; subst hu; simp; omega
  | r + 6, hu => simp [EG] at hu
abbrev put6 (W : World) (b o : Nat) (y : MG) : World := (((((W.setCell ⟨b, o, none⟩ (.int .u8 y.kd)).setCell ⟨b, o + 1, none⟩ (.int .i64 y.sq)).setCell ⟨b, o + 2, none⟩ (.string y.ky)).setCell ⟨b, o + 3, none⟩ (.string y.to)).setCell ⟨b, o + 4, none⟩ (.string y.vl)).setCell ⟨b, o + 5, none⟩ (.int .u64 y.dl)
theorem put6_obj {W : World} {b o : Nat} {cs : Array Value} {t : TypeId} {fr : Nat × Nat} (z : W.heap[b]? = some (.cells cs t fr)) (y : MG) : (put6 W b o y).heap[b]? = some (.cells (six cs o y) t fr) := by
  simp [World.setCell, Array.getElem?_modify, z, six]
theorem put6_chg (W : World) (b o : Nat) (y : MG) : Chg (fun g => g = b) W (put6 W b o y) := by
  have h : ∀ (V : World) (p : Nat) (v : Value), Chg (fun g => g = b) V (V.setCell ⟨b, p, none⟩ v) := fun V p v => Chg.set V v rfl
  have t : ∀ {A B C : World}, Chg (fun g => g = b) A B → Chg (fun g => g = b) B C → Chg (fun g => g = b) A C := fun x y => x.trans y (fun g hg => .inl hg)
  exact t (t (t (t (t (h W _ _) (h _ _ _)) (h _ _ _)) (h _ _ _)) (h _ _ _)) (h _ _ _)
theorem InP.set {w0 : World} {b off : Nat} {xs : List MG} {W : World} (h : InP w0 b off xs W) {i : Nat} (hi : i < xs.length) (y : MG) : InP w0 b off (xs.set i y) (put6 W b (off + i * 6) y) := by
  obtain ⟨cs, z, hc⟩ := h.obj
  refine ⟨⟨six cs (off + i * 6) y, put6_obj z y, fun j u hj => ?_⟩, h.chg.trans (put6_chg W b _ y) (fun g hg => .inl hg)⟩
  obtain ⟨k, r, x, h1, rfl, h3⟩ := RE.all_at EG hj
  have ek : EG.k = 6 := rfl
  rw [ek]
  have hr : r < 6 := by
    have q := (List.getElem?_eq_some_iff.1 h3).1
    rw [EG.len, ek] at q; exact q
  have hsz : off + i * 6 + 6 ≤ cs.size := by
    have hx : xs[i]? = some xs[i] := List.getElem?_eq_getElem hi
    have q := hc _ _ (EG.all_get hx (j := 5) (u := .int .u64 xs[i].dl) rfl)
    rw [ek] at q
    have := (Array.getElem?_eq_some_iff.1 q).1
    omega
  by_cases e : k = i
  · subst e
    rw [List.getElem?_set_self hi] at h1
    cases h1
    rw [← Nat.add_assoc]
    exact six_at cs (off + k * 6) y hsz h3
  · rw [List.getElem?_set_ne (Ne.symm e)] at h1
    have q := hc _ _ (EG.all_get h1 h3)
    rw [ek] at q
    rw [six_far cs (off + i * 6) y _ (by omega)]
    exact q
theorem inp_of_row {w : World} {base : Nat} {A : Option Addr} {l : List MG} {c : Nat} (h : EG.Row w base A l c) {x : MG} (hx : x ∈ l) : ∃ b, A = some ⟨b, 0, none⟩ ∧ base ≤ b ∧ b < w.heap.size ∧ InP w b 0 l w ∧ l.length ≤ c ∧ c ≤ maxLen := by
  rcases h with ⟨e, _⟩ | ⟨h0, h1, h2⟩
  · rw [e] at hx; cases hx
  · rcases h2 with ⟨hv, hn⟩ | ⟨g, cap, cur, hv, hb, hz, h3, h4, h5, h6⟩
    · injection hv with e1 e2 e3; omega
    · cases hv
      refine ⟨g, rfl, hb, ?_, ⟨⟨cur, hz, fun j u hu => ?_⟩, Chg.refl _ _⟩, h3, h4⟩
      · rcases Nat.lt_or_ge g w.heap.size with h' | h'
        · exact h'
        · rw [Array.getElem?_eq_none h'] at hz; cases hz
      · rw [Nat.zero_add]
        rw [← h6, List.getElem?_take] at hu
        split at hu
        · simpa using hu
        · cases hu
end Go.Proofs.YtilnpeekajnlhaaGreat
namespace Go.Proofs.YtilnpeekajnlhaaGreat
open Go.RowKit Go.Maps
theorem row_fresh (w : World) (n : Nat) (h0 : 0 < n) (hn : n ≤ 1000) :
    EG.Row (w.drew.alloc (.cells (Builtin.zeroCells EG.z.cells n ++ Builtin.zeroCells EG.z.cells (grownCap w n 0 50 - n)) 50)) w.heap.size (some ⟨w.heap.size, 0, none⟩) [] (grownCap w n 0 50) := by
  have h1 := grownCap_ge w n 0 50
  have h2 := grownCap_le_maxLen w n 0 50 (by unfold maxLen; omega)
  refine .inr ⟨by omega, by simp [RE.all], .inr ⟨w.heap.size, grownCap w n 0 50, Builtin.zeroCells EG.z.cells n ++ Builtin.zeroCells EG.z.cells (grownCap w n 0 50 - n), rfl, Nat.le_refl _, ?_, Nat.zero_le _, h2, ?_, by simp [RE.all]⟩⟩
  · exact heap_alloc_new w.drew _
  · rw [Array.size_append, size_zeroCells, size_zeroCells, ← Nat.add_mul]
    have : n + (grownCap w n 0 50 - n) = grownCap w n 0 50 := by omega
    rw [this]; rfl
set_option maxRecDepth 10000 in
set_option maxHeartbeats 4000000 in
theorem grow_nil (n : Nat) (hn : n ≤ 1000) (w : World) :
    Calls Tryz.prog 91 #[.slice none 0 0, .int .i64 n] w fun r w' => (∃ A c, r = .returned (.slice A 0 c) ∧ EG.Row w' w.heap.size A [] c) ∧ Below w.heap.size w w' := by
  have h1 : ¬ ((n : Int) < 0) := by omega
  go_enter Tryz.func91, Tryz.ntmps91
  by_cases hz : n = 0
  · subst hz
    go_wp2
    go_ret
    exact ⟨⟨none, 0, rfl, .inl ⟨rfl, rfl⟩⟩, Below.refl _ _⟩
  · have h2 : (0 : Int) < (n : Int) := by omega
    have h3 : 0 < n := by omega
    have hw : IntKind.i64.wrap (n : Int) = (n : Int) := IntWalk.i64_in _ (by omega)
    obtain ⟨i, hi, hzr, hsz, hby⟩ := EG.parts
    have HRUN := Lib.hid (Lib.run_append_nil_zeros (P := Tryz.prog) w 25 3 25 50 i EG.z .i64 .i64 Tryz.underlying25 Tryz.underlying3 hi hzr n h3 (by rw [hsz]; show 0 < 6; omega) (by omega) (by rw [hby]; show n * 72 ≤ _; omega))
    have HROW := Lib.hid (row_fresh w n h3 hn)
    have HBEL := Lib.hid (show Below w.heap.size w (w.drew.alloc (.cells (Builtin.zeroCells EG.z.cells n ++ Builtin.zeroCells EG.z.cells (grownCap w n 0 50 - n)) 50)) by go_grown)
    have HGC := Lib.hid (grownCap_ge w n 0 50)
    obtain ⟨W1, hW1⟩ : ∃ W1, W1 = w.drew.alloc (.cells (Builtin.zeroCells EG.z.cells n ++ Builtin.zeroCells EG.z.cells (grownCap w n 0 50 - n)) 50) := ⟨_, rfl⟩
    rw [← hW1] at HRUN HROW HBEL
    obtain ⟨c, hc⟩ : ∃ c, c = grownCap w n 0 50 := ⟨_, rfl⟩
    rw [← hc] at HRUN HROW HGC
    clear hW1 hc hi hzr hsz hby i
    have hnc := HGC.out
    go_wp2_with (first
      | (at_builtin; refine Lib.wpList_append_run _ rfl (.tmp 20) (.tmp 21) 25 3 rfl _ _ rfl rfl _ _ HRUN.out ?_)
      | fail)
    go_ret
    exact ⟨⟨_, _, rfl, HROW.out⟩, HBEL.out⟩
set_option maxRecDepth 10000 in
set_option maxHeartbeats 4000000 in
theorem concat_any (g : Nat) (A B : Option Addr) (n c m d : Nat) (xs ys : List MG) (w : World) (hg : w.heap[g]? = some (.cells #[.slice A n c, .slice B m d] 25 (0, 0)))
    (hx : xs.length = n) (hy : ys.length = m) (hn : n ≤ 100) (hm : m ≤ 100) (hA : EG.Rd w A xs) (hB : EG.Rd w B ys) :
    Calls Tryz.prog 70 #[.slice (some ⟨g, 0, none⟩) 2 2] w fun r w' => (∃ A' c', r = .returned (.slice A' (n + m) c') ∧ EG.Row w' w.heap.size A' (xs ++ ys) c') ∧ Below w.heap.size w w' := by
  have HG := Lib.hid hg
  have HX := Lib.hid hx
  have HY := Lib.hid hy
  have HA := Lib.hid hA
  have HB := Lib.hid hB
  obtain ⟨c0, c1, -, -⟩ := has_two hg
  clear hg hx hy hA hB
  have n1 : ¬ ((n : Int) < 0) := by omega
  have n2 : ¬ ((n : Int) + (m : Int) < 0) := by omega
  have AG := Lib.hid (grow_nil (n + m) (by omega) w)
  have hnm : ((n + m : Nat) : Int) = (n : Int) + (m : Int) := by omega
  rw [hnm] at AG
  clear hnm
  go_enter Tryz.func70, Tryz.ntmps70
  go_wp2
  go_loopw [3, 11] (fun sv iv wr => ((iv = .int .i64 0 ∧ sv = .int .i64 0 ∧ w = wr) ∨ (iv = .int .i64 1 ∧ sv = .int .i64 n ∧ w = wr) ∨ (iv = .int .i64 2 ∧ sv = .int .i64 ((n : Int) + m) ∧ w = wr))) (fun _ i _ => 2 - (intOf i).toNat)
  case atStart => exact .inl ⟨rfl, rfl, rfl⟩
  case round =>
    rcases hrel with ⟨rfl, rfl, rfl⟩ | ⟨rfl, rfl, rfl⟩ | ⟨rfl, rfl, rfl⟩
    · go_wp2
      exact ⟨.inr (.inl (by simp)), by simp [intOf]⟩
    · go_wp2
      exact ⟨.inr (.inr (by simp)), by simp [intOf]⟩
    · go_wp2_with (first
        | (go_at_call 91; ((with_reducible refine AG.out.mono ?_); rintro e w1 ⟨⟨A0, k0, rfl, r0⟩, b1⟩; have R0 := Lib.hid r0; have B1 := Lib.hid b1; clear r0))
        | fail)
      go_loopw [6, 27] (fun sv iv wr => (iv = .int .i64 0 ∧ sv = .slice A0 0 k0 ∧ Hid (EG.Row wr w.heap.size A0 [] k0) ∧ Below w.heap.size w wr) ∨ (∃ A1 k1, iv = .int .i64 1 ∧ sv = .slice A1 n k1 ∧ Hid (EG.Row wr w.heap.size A1 xs k1) ∧ Below w.heap.size w wr) ∨ (∃ A1 k1, iv = .int .i64 2 ∧ sv = .slice A1 (n + m) k1 ∧ Hid (EG.Row wr w.heap.size A1 (xs ++ ys) k1) ∧ Below w.heap.size w wr)) (fun _ i _ => 2 - (intOf i).toNat)
      case atStart => exact .inl ⟨rfl, rfl, R0, B1.out⟩
      case round =>
        rcases hrel with ⟨rfl, rfl, RR, hb⟩ | ⟨A1, k1, rfl, rfl, RR, hb⟩ | ⟨A1, k1, rfl, rfl, RR, hb⟩
        · have HBB := Lib.hid hb
          obtain ⟨e0, e1, -, -⟩ := has_two (keep_bel hb HG.out)
          clear hb
          go_wp2_with (first
            | (at_builtin; refine RE.wpList_put EG _ rfl (.tmp 31) (.tmp 32) rfl (base := w.heap.size) A0 0 k0 [] A n c xs rfl rfl RR.out rfl (by omega) HBB.out.size HX.out (by omega) (HA.out.later HBB.out) ?_; intro A2 k2 w2 r1 r2 r3; have R1 := Lib.hid r1; have BX := Lib.hid (HBB.out.trans (RE.Row.below r2 RR.out (Nat.le_refl _) HBB.out.size)); clear r1 r2 r3)
            | fail)
          exact ⟨.inr (.inl ⟨A2, k2, by simp, by simp, Lib.hid (by simpa using R1.out), BX.out⟩), by simp [intOf]⟩
        · have HBB := Lib.hid hb
          obtain ⟨e0, e1, -, -⟩ := has_two (keep_bel hb HG.out)
          clear hb
          go_wp2_with (first
            | (at_builtin; refine RE.wpList_put EG _ rfl (.tmp 31) (.tmp 32) rfl (base := w.heap.size) A1 n k1 xs B m d ys rfl rfl RR.out HX.out (by omega) HBB.out.size HY.out (by omega) (HB.out.later HBB.out) ?_; intro A2 k2 w2 r1 r2 r3; have R1 := Lib.hid r1; have BX := Lib.hid (HBB.out.trans (RE.Row.below r2 RR.out (Nat.le_refl _) HBB.out.size)); clear r1 r2 r3)
            | fail)
          exact ⟨.inr (.inr ⟨A2, k2, by simp, rfl, R1, BX.out⟩), by simp [intOf]⟩
        · have HBB := Lib.hid hb
          clear hb
          go_wp2
          go_ret
          exact ⟨⟨_, _, rfl, RR.out⟩, HBB.out⟩
end Go.Proofs.YtilnpeekajnlhaaGreat
namespace Go.Proofs.YtilnpeekajnlhaaGreat
open Go.RowKit Go.Maps
abbrev OF : Value := .func (.func 61) #[] #[]
end Go.Proofs.YtilnpeekajnlhaaGreat
