/- Texts of the proof, one behind the other. -/
import Derived.Test.YtilnpeekajnlhaaEk16
import Derived.Test.YtilnpeekajnlhaaEk02
import Derived.Test.YtilnpeekajnlhaaEk06
import Derived.Lib.AppendZeros
set_option linter.unusedVariables false
set_option linter.unusedSimpArgs false
namespace Go.Proofs.Ytilnpeekajnlhaa
open Go.RowKit Go.Maps
/-- Messages lie in a block, and nothing but that block was changed since. -/
structure InP (w0 : World) (b off : Nat) (xs : List MG) (W : World) : Prop where
  obj : ∃ cs, W.heap[b]? = some (.cells cs 62 (0, 0)) ∧ ∀ j u, (EG.all xs)[j]? = some u → cs[off + j]? = some u
  chg : Chg (fun g => g = b) w0 W
theorem InP.later {w0 : World} {b off : Nat} {xs : List MG} {W W2 : World} (h : InP w0 b off xs W) (k : Below W.heap.size W W2) : InP w0 b off xs W2 := by
  obtain ⟨cs, z, hc⟩ := h.obj
  exact ⟨⟨cs, keep_bel k z, hc⟩, h.chg.trans (Chg.of_below k) (fun g hg => .inl hg)⟩
theorem InP.trans {w0 w1 w2 : World} {b off : Nat} {xs ys : List MG} (h : InP w0 b off xs w1) (k : InP w1 b off ys w2) : InP w0 b off ys w2 :=
  ⟨k.obj, h.chg.trans k.chg (fun g hg => .inl hg)⟩
theorem InP.refl {w0 : World} {b off : Nat} {xs : List MG} {W : World} (h : InP w0 b off xs W) : InP W b off xs W := ⟨h.obj, Chg.refl _ _⟩
theorem InP.rd {w0 : World} {b off : Nat} {xs : List MG} {W : World} (h : InP w0 b off xs W) : EG.Rd W (some ⟨b, off, none⟩) xs := by
  obtain ⟨cs, z, hc⟩ := h.obj
  refine .inr ⟨b, off, rfl, ?_, fun j u hu => ?_⟩
  · rcases Nat.lt_or_ge b W.heap.size with h' | h'
    · exact h'
    · rw [Array.getElem?_eq_none h'] at z; cases z
  · simp [World.cell?, z, hc j u hu]
theorem InP.frz {w0 : World} {b off : Nat} {xs : List MG} {W : World} (h : InP w0 b off xs W) (p : Nat) : W.frozen? ⟨b, p, none⟩ = false := by
  obtain ⟨cs, z, hc⟩ := h.obj
  simp [World.frozen?, z]
def six (cs : Array Value) (o : Nat) (y : MG) : Array Value := (((((cs.setIfInBounds o (.int .u8 y.kd)).setIfInBounds (o + 1) (.int .i64 y.sq)).setIfInBounds (o + 2) (.string y.ky)).setIfInBounds (o + 3) (.string y.to)).setIfInBounds (o + 4) (.string y.vl)).setIfInBounds (o + 5) (.int .u64 y.dl)
theorem six_far (cs : Array Value) (o : Nat) (y : MG) (p : Nat) (h : p < o ∨ o + 6 ≤ p) : (six cs o y)[p]? = cs[p]? := by
  unfold six
  simp only [Array.getElem?_setIfInBounds, Array.size_setIfInBounds]
  rw [if_neg (by omega), if_neg (by omega), if_neg (by omega), if_neg (by omega), if_neg (by omega), if_neg (by omega)]
theorem six_at (cs : Array Value) (o : Nat) (y : MG) (h : o + 6 ≤ cs.size) {r : Nat} {u : Value} (hu : (EG.cs y)[r]? = some u) : (six cs o y)[o + r]? = some u := by
  unfold six
  simp only [Array.getElem?_setIfInBounds, Array.size_setIfInBounds]
  match r, hu with
  | 0, hu => simp [EG] at hu; subst hu; simp; omega
  | 1, hu => simp [EG] at hu; subst hu; simp; omega
  | 2, hu => simp [EG] at hu; subst hu; simp; omega
  | 3, hu => simp [EG] at hu; subst hu; simp; omega
  | 4, hu => simp [EG] at hu; subst hu; simp; omega
  | 5, hu => simp [EG] at hu; subst hu; simp; omega
  | r + 6, hu => simp [EG] at hu
abbrev put6 (W : World) (b o : Nat) (y : MG) : World := (((((W.setCell ⟨b, o, none⟩ (.int .u8 y.kd)).setCell ⟨b, o + 1, none⟩ (.int .i64 y.sq)).setCell ⟨b, o + 2, none⟩ (.string y.ky)).setCell ⟨b, o + 3, none⟩ (.string y.to)).setCell ⟨b, o + 4, none⟩ (.string y.vl)).setCell ⟨b, o + 5, none⟩ (.int .u64 y.dl)
theorem put6_obj {W : World} {b o : Nat} {cs : Array Value} {t : TypeId} {fr : Nat × Nat} (z : W.heap[b]? = some (.cells cs t fr)) (y : MG) : (put6 W b o y).heap[b]? = some (.cells (six cs o y) t fr) := by
  simp [World.setCell, Array.getElem?_modify, z, six]
theorem put6_chg (W : World) (b o : Nat) (y : MG) : Chg (fun g => g = b) W (put6 W b o y) := by
  have h : ∀ (V : World) (p : Nat) (v : Value), Chg (fun g => g = b) V (V.setCell ⟨b, p, none⟩ v) := fun V p v => Chg.set V v rfl
  have t : ∀ {A B C : World}, Chg (fun g => g = b) A B → Chg (fun g => g = b) B C → Chg (fun g => g = b) A C := fun x y => x.trans y (fun g hg => .inl hg)
  exact t (t (t (t (t (h W _ _) (h _ _ _)) (h _ _ _)) (h _ _ _)) (h _ _ _)) (h _ _ _)
theorem InP.set {w0 : World} {b off : Nat} {xs : List MG} {W : World} (h : InP w0 b off xs W) {i : Nat} (hi : i < xs.length) (y : MG) : InP w0 b off (xs.set i y) (put6 W b (off + i * 6) y) := by
  obtain ⟨cs, z, hc⟩ := h.obj
  refine ⟨⟨six cs (off + i * 6) y, put6_obj z y, fun j u hj => ?_⟩, h.chg.trans (put6_chg W b _ y) (fun g hg => .inl hg)⟩
  obtain ⟨k, r, x, h1, rfl, h3⟩ := RE.all_at EG hj
  have ek : EG.k = 6 := rfl
  rw [ek]
  have hr : r < 6 := by
    have q := (List.getElem?_eq_some_iff.1 h3).1
    rw [EG.len, ek] at q; exact q
  have hsz : off + i * 6 + 6 ≤ cs.size := by
    have hx : xs[i]? = some xs[i] := List.getElem?_eq_getElem hi
    have q := hc _ _ (EG.all_get hx (j := 5) (u := .int .u64 xs[i].dl) rfl)
    rw [ek] at q
    have := (Array.getElem?_eq_some_iff.1 q).1
    omega
  by_cases e : k = i
  · subst e
    rw [List.getElem?_set_self hi] at h1
    cases h1
    rw [← Nat.add_assoc]
    exact six_at cs (off + k * 6) y hsz h3
  · rw [List.getElem?_set_ne (Ne.symm e)] at h1
    have q := hc _ _ (EG.all_get h1 h3)
    rw [ek] at q
    rw [six_far cs (off + i * 6) y _ (by omega)]
    exact q
theorem inp_of_row {w : World} {base : Nat} {A : Option Addr} {l : List MG} {c : Nat} (h : EG.Row w base A l c) {x : MG} (hx : x ∈ l) : ∃ b, A = some ⟨b, 0, none⟩ ∧ base ≤ b ∧ b < w.heap.size ∧ InP w b 0 l w ∧ l.length ≤ c ∧ c ≤ maxLen := by
  rcases h with ⟨e, _⟩ | ⟨h0, h1, h2⟩
  · rw [e] at hx; cases hx
  · rcases h2 with ⟨hv, hn⟩ | ⟨g, cap, cur, hv, hb, hz, h3, h4, h5, h6⟩
    · injection hv with e1 e2 e3; omega
    · cases hv
      refine ⟨g, rfl, hb, ?_, ⟨⟨cur, hz, fun j u hu => ?_⟩, Chg.refl _ _⟩, h3, h4⟩
      · rcases Nat.lt_or_ge g w.heap.size with h' | h'
        · exact h'
        · rw [Array.getElem?_eq_none h'] at hz; cases hz
      · rw [Nat.zero_add]
        rw [← h6, List.getElem?_take] at hu
        split at hu
        · simpa using hu
        · cases hu
end Go.Proofs.Ytilnpeekajnlhaa
namespace Go.Proofs.Ytilnpeekajnlhaa
open Go.RowKit Go.Maps
theorem row_fresh (w : World) (n : Nat) (h0 : 0 < n) (hn : n ≤ 1000) :
    EG.Row (w.drew.alloc (.cells (Builtin.zeroCells EG.z.cells n ++ Builtin.zeroCells EG.z.cells (grownCap w n 0 62 - n)) 62)) w.heap.size (some ⟨w.heap.size, 0, none⟩) [] (grownCap w n 0 62) := by
  have h1 := grownCap_ge w n 0 62
  have h2 := grownCap_le_maxLen w n 0 62 (by unfold maxLen; omega)
  refine .inr ⟨by omega, by simp [RE.all], .inr ⟨w.heap.size, grownCap w n 0 62, Builtin.zeroCells EG.z.cells n ++ Builtin.zeroCells EG.z.cells (grownCap w n 0 62 - n), rfl, Nat.le_refl _, ?_, Nat.zero_le _, h2, ?_, by simp [RE.all]⟩⟩
  · exact heap_alloc_new w.drew _
  · rw [Array.size_append, size_zeroCells, size_zeroCells, ← Nat.add_mul]
    have : n + (grownCap w n 0 62 - n) = grownCap w n 0 62 := by omega
    rw [this]; rfl
set_option maxRecDepth 10000 in
set_option maxHeartbeats 4000000 in
theorem grow_nil (n : Nat) (hn : n ≤ 1000) (w : World) :
    Calls Try.prog 112 #[.slice none 0 0, .int .i64 n] w fun r w' => (∃ A c, r = .returned (.slice A 0 c) ∧ EG.Row w' w.heap.size A [] c) ∧ Below w.heap.size w w' := by
  have h1 : ¬ ((n : Int) < 0) := by omega
  go_enter Try.func112, Try.ntmps112
  by_cases hz : n = 0
  · subst hz
    go_wp2
    go_ret
    exact ⟨⟨none, 0, rfl, .inl ⟨rfl, rfl⟩⟩, Below.refl _ _⟩
  · have h2 : (0 : Int) < (n : Int) := by omega
    have h3 : 0 < n := by omega
    have hw : IntKind.i64.wrap (n : Int) = (n : Int) := IntWalk.i64_in _ (by omega)
    obtain ⟨i, hi, hzr, hsz, hby⟩ := EG.parts
    have HRUN := Lib.hid (Lib.run_append_nil_zeros (P := Try.prog) w 25 3 25 62 i EG.z .i64 .i64 Try.underlying25 Try.underlying3 hi hzr n h3 (by rw [hsz]; show 0 < 6; omega) (by omega) (by rw [hby]; show n * 72 ≤ _; omega))
    have HROW := Lib.hid (row_fresh w n h3 hn)
    have HBEL := Lib.hid (show Below w.heap.size w (w.drew.alloc (.cells (Builtin.zeroCells EG.z.cells n ++ Builtin.zeroCells EG.z.cells (grownCap w n 0 62 - n)) 62)) by go_grown)
    have HGC := Lib.hid (grownCap_ge w n 0 62)
    obtain ⟨W1, hW1⟩ : ∃ W1, W1 = w.drew.alloc (.cells (Builtin.zeroCells EG.z.cells n ++ Builtin.zeroCells EG.z.cells (grownCap w n 0 62 - n)) 62) := ⟨_, rfl⟩
    rw [← hW1] at HRUN HROW HBEL
    obtain ⟨c, hc⟩ : ∃ c, c = grownCap w n 0 62 := ⟨_, rfl⟩
    rw [← hc] at HRUN HROW HGC
    clear hW1 hc hi hzr hsz hby i
    have hnc := HGC.out
    go_wp2_with (first
      | (at_builtin; refine Lib.wpList_append_run _ rfl (.tmp 20) (.tmp 21) 25 3 rfl _ _ rfl rfl _ _ HRUN.out ?_)
      | fail)
    go_ret
    exact ⟨⟨_, _, rfl, HROW.out⟩, HBEL.out⟩
set_option maxRecDepth 10000 in
set_option maxHeartbeats 4000000 in
theorem concat_any (g : Nat) (A B : Option Addr) (n c m d : Nat) (xs ys : List MG) (w : World) (hg : w.heap[g]? = some (.cells #[.slice A n c, .slice B m d] 25 (0, 0)))
    (hx : xs.length = n) (hy : ys.length = m) (hn : n ≤ 100) (hm : m ≤ 100) (hA : EG.Rd w A xs) (hB : EG.Rd w B ys) :
    Calls Try.prog 87 #[.slice (some ⟨g, 0, none⟩) 2 2] w fun r w' => (∃ A' c', r = .returned (.slice A' (n + m) c') ∧ EG.Row w' w.heap.size A' (xs ++ ys) c') ∧ Below w.heap.size w w' := by
  have HG := Lib.hid hg
  have HX := Lib.hid hx
  have HY := Lib.hid hy
  have HA := Lib.hid hA
  have HB := Lib.hid hB
  obtain ⟨c0, c1, -, -⟩ := has_two hg
  clear hg hx hy hA hB
  have n1 : ¬ ((n : Int) < 0) := by omega
  have n2 : ¬ ((n : Int) + (m : Int) < 0) := by omega
  have AG := Lib.hid (grow_nil (n + m) (by omega) w)
  have hnm : ((n + m : Nat) : Int) = (n : Int) + (m : Int) := by omega
  rw [hnm] at AG
  clear hnm
  go_enter Try.func87, Try.ntmps87
  go_wp2
  go_loopw [3, 11] (fun sv iv wr => ((iv = .int .i64 0 ∧ sv = .int .i64 0 ∧ w = wr) ∨ (iv = .int .i64 1 ∧ sv = .int .i64 n ∧ w = wr) ∨ (iv = .int .i64 2 ∧ sv = .int .i64 ((n : Int) + m) ∧ w = wr))) (fun _ i _ => 2 - (intOf i).toNat)
  case atStart => exact .inl ⟨rfl, rfl, rfl⟩
  case round =>
    rcases hrel with ⟨rfl, rfl, rfl⟩ | ⟨rfl, rfl, rfl⟩ | ⟨rfl, rfl, rfl⟩
    · go_wp2
      exact ⟨.inr (.inl (by simp)), by simp [intOf]⟩
    · go_wp2
      exact ⟨.inr (.inr (by simp)), by simp [intOf]⟩
    · go_wp2_with (first
        | (go_at_call 112; ((with_reducible refine AG.out.mono ?_); rintro e w1 ⟨⟨A0, k0, rfl, r0⟩, b1⟩; have R0 := Lib.hid r0; have B1 := Lib.hid b1; clear r0))
        | fail)
      go_loopw [6, 27] (fun sv iv wr => (iv = .int .i64 0 ∧ sv = .slice A0 0 k0 ∧ Hid (EG.Row wr w.heap.size A0 [] k0) ∧ Below w.heap.size w wr) ∨ (∃ A1 k1, iv = .int .i64 1 ∧ sv = .slice A1 n k1 ∧ Hid (EG.Row wr w.heap.size A1 xs k1) ∧ Below w.heap.size w wr) ∨ (∃ A1 k1, iv = .int .i64 2 ∧ sv = .slice A1 (n + m) k1 ∧ Hid (EG.Row wr w.heap.size A1 (xs ++ ys) k1) ∧ Below w.heap.size w wr)) (fun _ i _ => 2 - (intOf i).toNat)
      case atStart => exact .inl ⟨rfl, rfl, R0, B1.out⟩
      case round =>
        rcases hrel with ⟨rfl, rfl, RR, hb⟩ | ⟨A1, k1, rfl, rfl, RR, hb⟩ | ⟨A1, k1, rfl, rfl, RR, hb⟩
        · have HBB := Lib.hid hb
          obtain ⟨e0, e1, -, -⟩ := has_two (keep_bel hb HG.out)
          clear hb
          go_wp2_with (first
            | (at_builtin; refine RE.wpList_put EG _ rfl (.tmp 31) (.tmp 32) rfl (base := w.heap.size) A0 0 k0 [] A n c xs rfl rfl RR.out rfl (by omega) HBB.out.size HX.out (by omega) (HA.out.later HBB.out) ?_; intro A2 k2 w2 r1 r2 r3; have R1 := Lib.hid r1; have BX := Lib.hid (HBB.out.trans (RE.Row.below r2 RR.out (Nat.le_refl _) HBB.out.size)); clear r1 r2 r3)
            | fail)
          exact ⟨.inr (.inl ⟨A2, k2, by simp, by simp, Lib.hid (by simpa using R1.out), BX.out⟩), by simp [intOf]⟩
        · have HBB := Lib.hid hb
          obtain ⟨e0, e1, -, -⟩ := has_two (keep_bel hb HG.out)
          clear hb
          go_wp2_with (first
            | (at_builtin; refine RE.wpList_put EG _ rfl (.tmp 31) (.tmp 32) rfl (base := w.heap.size) A1 n k1 xs B m d ys rfl rfl RR.out HX.out (by omega) HBB.out.size HY.out (by omega) (HB.out.later HBB.out) ?_; intro A2 k2 w2 r1 r2 r3; have R1 := Lib.hid r1; have BX := Lib.hid (HBB.out.trans (RE.Row.below r2 RR.out (Nat.le_refl _) HBB.out.size)); clear r1 r2 r3)
            | fail)
          exact ⟨.inr (.inr ⟨A2, k2, by simp, rfl, R1, BX.out⟩), by simp [intOf]⟩
        · have HBB := Lib.hid hb
          clear hb
          go_wp2
          go_ret
          exact ⟨⟨_, _, rfl, RR.out⟩, HBB.out⟩
end Go.Proofs.Ytilnpeekajnlhaa
namespace Go.Proofs.Ytilnpeekajnlhaa
open Go.RowKit Go.Maps
abbrev OF : Value := .func (.func 82) #[] #[]
set_option maxRecDepth 100000 in
set_option maxHeartbeats 8000000 in
theorem ins_two (A : Option Addr) (c : Nat) (x y : MG) (w : World) (hA : EG.Rd w A [x, y]) (ho : ¬ ordM y x < 0) :
    Calls Try.prog 123 #[.slice A 2 c, .int .i64 0, .int .i64 2, OF] w fun r w' => r = .returned (.tuple #[]) ∧ Below w.heap.size w w' := by
  have HA := Lib.hid hA
  obtain ⟨b, off, rfl, hlt, x0, x1, x2, x3, x4, x5⟩ := eg_at hA (i := 0) rfl
  clear hA hlt x0 x1 x2 x3 x4 x5
  have AO := Lib.hid (order_any y x)
  obtain ⟨o, hoo⟩ : ∃ o, o = ordM y x := ⟨_, rfl⟩
  rw [← hoo] at AO ho
  clear hoo
  have wz : IntKind.i64.wrap (0 : Int) = 0 := IntWalk.i64_in _ (by omega)
  go_enter Try.func123, Try.ntmps123
  go_wp2
  go_loopw [8] (fun iv wr => (iv = .int .i64 1 ∨ iv = .int .i64 2) ∧ Below w.heap.size w wr) (fun i _ => 2 - (intOf i).toNat)
  case atStart => exact ⟨.inl (by simp), Below.refl _ _⟩
  case round =>
    obtain ⟨h12, hb⟩ := hrel
    have HB := Lib.hid hb
    clear hb
    rcases h12 with rfl | rfl
    · go_wp2
      go_loopw [9] (fun jv wv => jv = .int .i64 1 ∧ Below w.heap.size w wv) (fun j _ => (intOf j).toNat)
      case atStart => exact ⟨rfl, HB.out⟩
      case round =>
      obtain ⟨rfl, hb⟩ := hrel
      have HC := Lib.hid hb
      have R := HA.out.later HC.out
      clear hb
      obtain ⟨b', off', e1, hlt, x0, x1, x2, x3, x4, x5⟩ := eg_at R (i := 0) rfl
      injection e1 with e1; injection e1 with e2 e3 e4; subst e2; subst e3
      obtain ⟨b', off', e1, hlt', y0, y1, y2, y3, y4, y5⟩ := eg_at R (i := 1) rfl
      injection e1 with e1; injection e1 with e2 e3 e4; subst e2; subst e3
      have X0 := Lib.hid (by simpa using x0); have X1 := Lib.hid (by simpa using x1); have X2 := Lib.hid (by simpa using x2); have X3 := Lib.hid (by simpa using x3); have X4 := Lib.hid (by simpa using x4); have X5 := Lib.hid (by simpa using x5)
      have Y0 := Lib.hid (by simpa using y0); have Y1 := Lib.hid (by simpa using y1); have Y2 := Lib.hid (by simpa using y2); have Y3 := Lib.hid (by simpa using y3); have Y4 := Lib.hid (by simpa using y4); have Y5 := Lib.hid (by simpa using y5)
      clear R x0 x1 x2 x3 x4 x5 y0 y1 y2 y3 y4 y5 hlt hlt'
      go_wp2_with fail
      refine wp_region_held_drew (S := (fun V : World => Below wr.heap.size wr V)) (by kernel_rfl) ?_ (fun hHeld => ?_)
      · exact (Below.refl _ _).drew
      have HHeld := Lib.hid hHeld; clear hHeld
      refine wT (i := 0) (oi := { dst := some 18, op := Op.move (Operand.tmp 9), type := 3, pos := "zsortanyfunc.go:12", after := #[], guard := none }) (v := ?_) rfl (Or.inl ⟨by rfl, ?_⟩) HHeld.out ?_
      rotate_left
      · intro w hSw; clear hSw; go_simp; try with_reducible rfl
      try simp only [pu, pn, s1, s2, s3]
      refine wT (i := 1) (oi := { dst := some 19, op := Op.move (Operand.tmp 1), type := 3, pos := "zsortanyfunc.go:12", after := #[], guard := none }) (v := ?_) rfl (Or.inl ⟨by rfl, ?_⟩) HHeld.out ?_
      rotate_left
      · intro w hSw; clear hSw; go_simp; try with_reducible rfl
      try simp only [pu, pn, s1, s2, s3]
      refine wT (i := 2) (oi := { dst := some 20, op := Op.binOp BinOp.gtr 3 (Operand.tmp 18) (Operand.tmp 19) 3, type := 4, pos := "zsortanyfunc.go:12", after := #[{ on := 0, ground := Ground.data }, { on := 1, ground := Ground.data }], guard := none }) (v := ?_) rfl (Or.inl ⟨by rfl, ?_⟩) HHeld.out ?_
      rotate_left
      · intro w hSw; clear hSw; go_simp; try with_reducible rfl
      try simp only [pu, pn, s1, s2, s3]
      refine wT (i := 3) (oi := { dst := some 21, op := Op.move (Operand.tmp 20), type := 4, pos := "zsortanyfunc.go:12", after := #[{ on := 2, ground := Ground.data }], guard := none }) (v := ?_) rfl (Or.inl ⟨by rfl, ?_⟩) HHeld.out ?_
      rotate_left
      · intro w hSw; clear hSw; go_simp; try with_reducible rfl
      try simp only [pu, pn, s1, s2, s3]
      refine wT (i := 4) (oi := { dst := some 22, op := Op.move (Operand.tmp 3), type := 109, pos := "zsortanyfunc.go:12", after := #[{ on := 3, ground := Ground.guard }], guard := some (3, true) }) (v := ?_) rfl (Or.inl ⟨by rfl, ?_⟩) HHeld.out ?_
      rotate_left
      · intro w hSw; clear hSw; go_simp; try with_reducible rfl
      try simp only [pu, pn, s1, s2, s3]
      refine wT (i := 5) (oi := { dst := some 23, op := Op.move (Operand.tmp 0), type := 25, pos := "zsortanyfunc.go:12", after := #[{ on := 3, ground := Ground.guard }], guard := some (3, true) }) (v := ?_) rfl (Or.inl ⟨by rfl, ?_⟩) HHeld.out ?_
      rotate_left
      · intro w hSw; clear hSw; go_simp; try with_reducible rfl
      try simp only [pu, pn, s1, s2, s3]
      refine wT (i := 6) (oi := { dst := some 24, op := Op.move (Operand.tmp 9), type := 3, pos := "zsortanyfunc.go:12", after := #[{ on := 3, ground := Ground.guard }], guard := some (3, true) }) (v := ?_) rfl (Or.inl ⟨by rfl, ?_⟩) HHeld.out ?_
      rotate_left
      · intro w hSw; clear hSw; go_simp; try with_reducible rfl
      try simp only [pu, pn, s1, s2, s3]
      refine wT (i := 7) (oi := { dst := some 25, op := Op.indexAddr 25 (Operand.tmp 23) (Operand.tmp 24), type := 0, pos := "zsortanyfunc.go:12", after := #[{ on := 5, ground := Ground.data }, { on := 6, ground := Ground.data }, { on := 3, ground := Ground.guard }], guard := some (3, true) }) (v := ?_) rfl (Or.inl ⟨by rfl, ?_⟩) HHeld.out ?_
      rotate_left
      · intro w hSw; clear hSw; go_simp; try with_reducible rfl
      try simp only [pu, pn, s1, s2, s3]
      refine wT (i := 8) (oi := { dst := some 26, op := Op.load 62 (Operand.tmp 25), type := 62, pos := "zsortanyfunc.go:12", after := #[{ on := 7, ground := Ground.data }, { on := 3, ground := Ground.guard }], guard := some (3, true) }) (v := (.agg #[.int .u8 y.kd, .int .i64 y.sq, .string y.ky, .string y.to, .string y.vl, .int .u64 y.dl] : Value)) rfl (Or.inl ⟨by rfl, ?_⟩) HHeld.out ?_
      · intro V hV; have hc0 := bel_later hV Y0.out; have hc1 := bel_later hV Y1.out; have hc2 := bel_later hV Y2.out; have hc3 := bel_later hV Y3.out; have hc4 := bel_later hV Y4.out; have hc5 := bel_later hV Y5.out; clear hV; go_simp
      try simp only [pu, pn, s1, s2, s3]
      refine wT (i := 9) (oi := { dst := some 27, op := Op.move (Operand.tmp 0), type := 25, pos := "zsortanyfunc.go:12", after := #[{ on := 3, ground := Ground.guard }], guard := some (3, true) }) (v := ?_) rfl (Or.inl ⟨by rfl, ?_⟩) HHeld.out ?_
      rotate_left
      · intro w hSw; clear hSw; go_simp; try with_reducible rfl
      try simp only [pu, pn, s1, s2, s3]
      refine wT (i := 10) (oi := { dst := some 28, op := Op.move (Operand.tmp 9), type := 3, pos := "zsortanyfunc.go:12", after := #[{ on := 3, ground := Ground.guard }], guard := some (3, true) }) (v := ?_) rfl (Or.inl ⟨by rfl, ?_⟩) HHeld.out ?_
      rotate_left
      · intro w hSw; clear hSw; go_simp; try with_reducible rfl
      try simp only [pu, pn, s1, s2, s3]
      refine wT (i := 11) (oi := { dst := some 29, op := Op.binOp BinOp.sub 3 (Operand.tmp 28) (Operand.const (Value.int IntKind.i64 1)) 3, type := 3, pos := "zsortanyfunc.go:12", after := #[{ on := 10, ground := Ground.data }, { on := 3, ground := Ground.guard }], guard := some (3, true) }) (v := ?_) rfl (Or.inl ⟨by rfl, ?_⟩) HHeld.out ?_
      rotate_left
      · intro w hSw; clear hSw; go_simp; try with_reducible rfl
      try simp only [pu, pn, s1, s2, s3]
      refine wT (i := 12) (oi := { dst := some 30, op := Op.indexAddr 25 (Operand.tmp 27) (Operand.tmp 29), type := 0, pos := "zsortanyfunc.go:12", after := #[{ on := 9, ground := Ground.data }, { on := 11, ground := Ground.data }, { on := 3, ground := Ground.guard }], guard := some (3, true) }) (v := ?_) rfl (Or.inl ⟨by rfl, ?_⟩) HHeld.out ?_
      rotate_left
      · intro w hSw; clear hSw; go_simp; try with_reducible rfl
      try simp only [pu, pn, s1, s2, s3]
      refine wT (i := 13) (oi := { dst := some 31, op := Op.load 62 (Operand.tmp 30), type := 62, pos := "zsortanyfunc.go:12", after := #[{ on := 12, ground := Ground.data }, { on := 3, ground := Ground.guard }], guard := some (3, true) }) (v := (.agg #[.int .u8 x.kd, .int .i64 x.sq, .string x.ky, .string x.to, .string x.vl, .int .u64 x.dl] : Value)) rfl (Or.inl ⟨by rfl, ?_⟩) HHeld.out ?_
      · intro V hV; have hc0 := bel_later hV X0.out; have hc1 := bel_later hV X1.out; have hc2 := bel_later hV X2.out; have hc3 := bel_later hV X3.out; have hc4 := bel_later hV X4.out; have hc5 := bel_later hV X5.out; clear hV; go_simp
      try simp only [pu, pn, s1, s2, s3]
      refine wpAnyH_ready (rs := [14]) (by kernel_rfl) (by simp) ?_
      refine AllReadyH.cons (o := { dst := some 32, op := Op.call { callee := Callee.value (Operand.tmp 22), args := #[Operand.tmp 26, Operand.tmp 31], argTypes := #[62, 62] }, type := 3, pos := "zsortanyfunc.go:12", after := #[{ on := 4, ground := Ground.data }, { on := 8, ground := Ground.data }, { on := 13, ground := Ground.data }, { on := 3, ground := Ground.chain }, { on := 3, ground := Ground.guard }], guard := some (3, true) }) rfl (fun K hK => ?_) AllReadyH.nil
      go_simp
      go_at_call 82; (refine (AO.out _).mono ?_); rintro e w5 ⟨rfl, c5⟩; have C5 := Lib.hid (bel_trans HHeld.out c5); clear c5
      refine hK.out _ _ ?_ (fun hHeld => ?_)
      · exact C5.out
      clear HHeld; have HHeld := Lib.hid hHeld; clear hHeld
      clear hK K
      try simp only [pu, pn, s1, s2, s3]
      refine wT (i := 15) (oi := { dst := some 33, op := Op.binOp BinOp.lss 3 (Operand.tmp 32) (Operand.const (Value.int IntKind.i64 0)) 3, type := 4, pos := "zsortanyfunc.go:12", after := #[{ on := 14, ground := Ground.data }, { on := 3, ground := Ground.guard }], guard := some (3, true) }) (v := ?_) rfl (Or.inl ⟨by rfl, ?_⟩) HHeld.out ?_
      rotate_left
      · intro w hSw; clear hSw; go_simp; try with_reducible rfl
      try simp only [pu, pn, s1, s2, s3]
      refine wT (i := 16) (oi := { dst := some 34, op := Op.pick (Operand.tmp 21) (Operand.tmp 33) (Operand.const (Value.bool false)), type := 4, pos := "zsortanyfunc.go:12", after := #[{ on := 3, ground := Ground.data }, { on := 15, ground := Ground.data }], guard := none }) (v := ?_) rfl (Or.inl ⟨by rfl, ?_⟩) HHeld.out ?_
      rotate_left
      · intro w hSw; clear hSw; go_simp; try with_reducible rfl
      try simp only [pu, pn, s1, s2, s3]
      refine wpAnyH_done (by kernel_rfl) ?_ _
      have CE := Lib.hid HHeld.out
      clear HHeld
      go_wp2
      exact ⟨⟨by simp, bel_trans HC.out CE.out⟩, by simp [intOf]⟩
    · go_wp2
      go_end0
      exact ⟨rfl, HB.out⟩
set_option maxHeartbeats 2000000 in
theorem stab_two (A : Option Addr) (c : Nat) (x y : MG) (w : World) (hA : EG.Rd w A [x, y]) (ho : ¬ ordM y x < 0) :
    Calls Try.prog 113 #[.slice A 2 c, .int .i64 2, OF] w fun r w' => r = .returned (.tuple #[]) ∧ Below w.heap.size w w' := by
  have AI := Lib.hid (ins_two A c x y w hA ho)
  clear hA ho
  go_enter Try.func113, Try.ntmps113
  go_wp2
  go_loopw [7, 8] (fun av iv wr => av = .int .i64 0 ∧ iv = .int .i64 20 ∧ w = wr) (fun _ i _ => 0)
  case atStart => exact ⟨rfl, rfl, rfl⟩
  case round =>
    obtain ⟨rfl, rfl, rfl⟩ := hrel
    go_wp2_with (first
      | (go_at_call 123; ((with_reducible refine AI.out.mono ?_); rintro e w1 ⟨rfl, b1⟩; have B1 := Lib.hid b1; clear b1))
      | fail)
    go_loopw [6] (fun iv wr => iv = .int .i64 20 ∧ w1 = wr) (fun i _ => 0)
    case atStart => exact ⟨rfl, rfl⟩
    case round =>
      obtain ⟨rfl, rfl⟩ := hrel
      go_wp2
      go_end0
      exact ⟨rfl, B1.out⟩
theorem sort_two (A : Option Addr) (c : Nat) (x y : MG) (w : World) (hA : EG.Rd w A [x, y]) (ho : ¬ ordM y x < 0) :
    Calls Try.prog 88 #[.slice A 2 c, OF] w fun r w' => r = .returned (.tuple #[]) ∧ Below w.heap.size w w' := by
  have AI := Lib.hid (stab_two A c x y w hA ho)
  clear hA ho
  go_enter Try.func88, Try.ntmps88
  go_wp2_with (first
    | (go_at_call 113; ((with_reducible refine AI.out.mono ?_); rintro e w1 ⟨rfl, b1⟩; have B1 := Lib.hid b1; clear b1))
    | fail)
  go_end0
  exact ⟨rfl, B1.out⟩
set_option maxHeartbeats 2000000 in
theorem add_two (A B : Option Addr) (c d : Nat) (x y : MG) (w : World) (hA : EG.Rd w A [x]) (hB : EG.Rd w B [y]) (ho : ¬ ordM y x < 0) :
    Calls Try.prog 47 #[.slice A 1 c, .slice B 1 d] w fun r w' => (∃ A' c', r = .returned (.slice A' 2 c') ∧ EG.Rd w' A' [x, y]) ∧ Below w.heap.size w w' := by
  have H0 := Lib.hid (alb w (.cells #[.slice A 1 c, .slice B 1 d] 25))
  have AC : Hid (Calls Try.prog 87 #[.slice (some ⟨w.heap.size, 0, none⟩) 2 2] (w.alloc (.cells #[.slice A 1 c, .slice B 1 d] 25)) fun r w' => (∃ A' c', r = .returned (.slice A' 2 c') ∧ EG.Row w' (w.alloc (.cells #[.slice A 1 c, .slice B 1 d] 25)).heap.size A' [x, y] c') ∧ Below (w.alloc (.cells #[.slice A 1 c, .slice B 1 d] 25)).heap.size (w.alloc (.cells #[.slice A 1 c, .slice B 1 d] 25)) w') := Lib.hid (concat_any w.heap.size A B 1 c 1 d [x] [y] (w.alloc (.cells #[.slice A 1 c, .slice B 1 d] 25)) (heap_alloc_new _ _) rfl rfl (by omega) (by omega) (hA.later H0.out) (hB.later H0.out))
  have HO := Lib.hid ho
  clear hA hB ho
  go_enter Try.func47, Try.ntmps47
  go_wp2_with (first
    | (go_at_call 87; ((with_reducible refine AC.out.mono ?_); rintro e w1 ⟨⟨A', c', rfl, r1⟩, b1⟩; have R1 := Lib.hid r1.rd; have B1 := Lib.hid (bel_trans H0.out b1); clear b1 r1))
    | (go_at_call 88; ((with_reducible refine (sort_two A' c' x y _ R1.out (by have := HO.out; omega)).mono ?_); rintro e w2 ⟨rfl, b2⟩; have R2 := Lib.hid (R1.out.later b2); have B2 := Lib.hid (bel_trans B1.out b2); clear b2))
    | fail)
  go_ret
  exact ⟨⟨_, _, rfl, R2.out⟩, B2.out⟩
end Go.Proofs.Ytilnpeekajnlhaa
