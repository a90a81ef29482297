/- A book of four sessions behind deeds. -/
import Derived.Test.YtlffigkjhhcohaaS7
namespace Go.Proofs.Ytlffigkjhhcohaa
set_option linter.unusedSimpArgs false
open Go.RowKit Go.Maps
set_option linter.unusedVariables false

/-- A new book. -/
def newB (ss : Int) : RB := ⟨ss, 0, fun _ => false, fun _ => 0, [], []⟩
/-- The book behind the first k deeds. -/
def playR (d0 d1 d2 : Nat → Int) (b : RB) : Nat → RB
  | 0 => b
  | k + 1 => stepR (playR d0 d1 d2 b k) (d0 k) (d1 k) (d2 k)
/-- A new book's cells. -/
def zbs (ss : Int) : Array Value := zb.setIfInBounds 0 (.int .i64 ss)
theorem zb_get (j : Nat) : zb[j]? = if j < 2 then some (.int .i64 0) else if j < 67 then some (.bool false) else if j < 132 then some (.int .i64 0) else if j < 134 then some (.slice none 0 0) else none := by
  unfold zb
  by_cases h1 : j < 2
  · rw [if_pos h1]
    have : j = 0 ∨ j = 1 := by omega
    rcases this with e | e <;> subst e <;> simp [Array.getElem?_append]
  · rw [if_neg h1]
    by_cases h2 : j < 67
    · rw [if_pos h2, Array.getElem?_append, if_pos (by simp; omega), Array.getElem?_append, if_pos (by simp; omega), Array.getElem?_append, if_neg (by simp; omega)]
      rw [Array.getElem?_replicate, if_pos (by simp; omega)]
    · rw [if_neg h2]
      by_cases h3 : j < 132
      · rw [if_pos h3, Array.getElem?_append, if_pos (by simp; omega), Array.getElem?_append, if_neg (by simp; omega)]
        rw [Array.getElem?_replicate, if_pos (by simp; omega)]
      · rw [if_neg h3]
        rw [Array.getElem?_append, if_neg (by simp; omega)]
        by_cases h4 : j < 134
        · rw [if_pos h4]
          have : j = 132 ∨ j = 133 := by omega
          rcases this with e | e <;> subst e <;> simp
        · rw [if_neg h4]
          exact Array.getElem?_eq_none (by simp; omega)
theorem zb_one : zb.all (·.oneCell') = true := by
  rw [Array.all_eq_true_iff_forall_mem]
  intro x hx
  obtain ⟨j, hj⟩ := Array.getElem?_of_mem hx
  rw [zb_get] at hj
  split at hj
  · cases hj; rfl
  · split at hj
    · cases hj; rfl
    · split at hj
      · cases hj; rfl
      · split at hj
        · cases hj; rfl
        · cases hj
theorem zbs_get (ss : Int) (j : Nat) : (zbs ss)[j]? = if j = 0 then some (.int .i64 ss) else zb[j]? := by
  unfold zbs
  rw [set_get _ _ _ _ (by rw [zb_size]; omega)]
theorem RBk.new (F : Nat → Prop) (w : World) (ss : Int) : RBk F w (zbs ss) (newB ss) := by
  refine ⟨by simp [zbs, zb_size], one_set zb_one _ rfl, ?_, ?_, fun i hi => ?_, fun i hi => ?_, ⟨none, 0, ?_, .inl rfl, .inl rfl⟩, ⟨none, 0, ?_, .inl rfl, .inl rfl⟩⟩
  · rw [zbs_get, if_pos rfl]; rfl
  · rw [zbs_get, if_neg (by omega), zb_get, if_pos (by omega)]; rfl
  · rw [zbs_get, if_neg (by omega), zb_get, if_neg (by omega), if_pos (by omega)]; rfl
  · rw [zbs_get, if_neg (by omega), zb_get, if_neg (by omega), if_neg (by omega), if_pos (by omega)]; rfl
  · rw [zbs_get, if_neg (by omega), zb_get, if_neg (by omega), if_neg (by omega), if_neg (by omega), if_pos (by omega)]; rfl
  · rw [zbs_get, if_neg (by omega), zb_get, if_neg (by omega), if_neg (by omega), if_neg (by omega), if_pos (by omega)]; rfl
theorem built_zbs (ss : Int) : Try.prog.built 32 [(0, .int .i64 ss)] = some (zbs ss) := by kernel_rfl
theorem ST.down {c lo lo' N : Nat} {K : Nat → Prop} {b b' : RB} {w : World} {cs : Array Value} (h : ST c lo N K b b' w cs) (hl : lo' ≤ lo) : ST c lo' N K b b' w cs := by
  obtain ⟨M, A1, A2, k1, k2, m, S, h1, h2, h3, h4, hK⟩ := h
  exact ⟨M, A1, A2, k1, k2, m, S, ⟨⟨Nat.le_trans hl h1.hN.1, h1.hN.2⟩, ⟨Nat.le_trans hl h1.hM.1, h1.hM.2⟩, h1.c0, h1.c1, h1.c2, h1.c3, h1.c4, h1.fz, h1.mp, h1.r1.base hl, h1.r2.base hl, h1.d1, h1.d2, h1.d⟩, h2, h3, h4, hK⟩
def KX (a b g : Nat) : Prop := g = a ∨ g = b
theorem ST.start {lo0 lo N M : Nat} {w1 : World} {ss : Int} (h : PB w1 lo N M none none 0 0 0 ss 0 (fun _ => none) [] []) (hs : 1 ≤ ss ∧ ss ≤ 64) (hl : lo = lo0 + 1) (hlt : lo0 < w1.heap.size) : ST 0 (lo0 + 1) N (KX lo0 w1.heap.size) (newB ss) (newB ss) (W2 w1 (zbs ss)) (zbs ss) := by
  subst hl
  have h0 : ST 0 (lo0 + 1) N (fun g => g = lo0) (newB ss) (newB ss) w1 (zbs ss) := by
    refine ⟨M, none, none, 0, 0, 0, fun _ => none, h, RBk.new _ _ _, ⟨hs, ⟨Int.le_refl _, Int.le_refl _⟩, Nat.le_refl _, Nat.le_refl _, rfl, fun i j hi => by simp [newB] at hi, fun j hj => by simp [newB] at hj, fun x => by simp [newB], fun k _ _ h => by cases h⟩, ⟨.inl rfl, .inl rfl⟩, fun g hg => ?_⟩
    subst hg
    exact ⟨hlt, fun hf => by have := h.low _ hf; omega⟩
  refine h0.wide (W2.bel w1 _) _ ?_
  rintro g (e | e)
  · exact .inl e
  · exact .inr ⟨by omega, by rw [W2.size]; omega⟩
theorem cell_setRow {w : World} {N b o : Nat} {cs : Array Value} (h : b ≠ N) : (w.setRow N cs).cell? ⟨b, o, none⟩ = w.cell? ⟨b, o, none⟩ := World.cell?_of_block (a := ⟨b, o, none⟩) (setRow_other _ _ _ _ (by first | exact h | exact h.symm))
theorem res11 (tmps : Array Value) (w : World) (g : Nat) (cs : Array Value) (U V : Value) (hu : tmps.getD 2 undef = U) (hp : tmps.getD 3 undef = .pointer (some ⟨g, 0, none⟩)) (hv : tmps.getD 4 undef = V) (hg : w.heap[g]? = some (.cells cs 32 (0, 0))) (hi : (Try.prog.info? 32).map (·.size) = some cs.size) :
    (results Try.f11 tmps).run Try.prog w = .ok (.tuple #[U, .agg cs, V]) w := by
  have hu' : tmps[2]?.getD undef = U := by simpa using hu
  have hp' : tmps[3]?.getD undef = .pointer (some ⟨g, 0, none⟩) := by simpa using hp
  have hv' : tmps[4]?.getD undef = V := by simpa using hv
  simp [results, Try.results11, hu', hp', hv', asAddr, run_loadVar_row w g 32 32 cs (0, 0) _ hg Try.underlying32 rfl hi]
def LPost (w : World) (b : RB) (e : Ending) (w' : World) : Prop := ∃ N cs, e = .returned (.tuple #[.pointer (some ⟨N, 0, none⟩), .agg cs, .bool true]) ∧ ST 60 w.heap.size N (fun _ => False) b b w' cs ∧ Below w.heap.size w w'
set_option maxRecDepth 4000 in
set_option maxHeartbeats 1000000 in
theorem played_any (A : Option Addr) (n cap : Nat) (d0 d1 d2 : Nat → Int) (w : World) (hD : Deeds w A n d0 d1 d2) (hn : n ≤ maxLen) :
    Calls Try.prog 11 #[.slice A n cap] w (LPost w (playR d0 d1 d2 (newB 4) (min n 60))) := by
  have hal := run_zb
  have HD := Lib.hid hD
  have NW := Lib.hid (pnew_yes (w.alloc (.cells zb 32)) 4 (by omega) (by omega))
  have X0 := Lib.hid (heap_alloc_new w (.cells zb 32))
  have B0 := Lib.hid (al_below w (.cells zb 32))
  clear hD
  go_enter Try.func11, Try.ntmps11
  go_wp2_with (first
    | (go_at_call 7; ((with_reducible refine NW.out.mono ?_); rintro e w1 ⟨N, M, rfl, p1, b1⟩; have P1 := Lib.hid p1; have B1 := Lib.hid b1; have Z1 := Lib.hid (heap_alloc_new w1 (.cells zb 32)); clear p1 b1))
    | (refine wpList_build rfl 32 _ rfl (by kernel_rfl) ?_; rw [show ((Try.prog.built 32 ((#[(0, Operand.const (Value.int IntKind.i64 4))] : Array (Nat × Operand)).map _).toList)) = some (zbs 4) from built_zbs 4]; rw [Option.getD_some])
    | (refine wpList_store_row rfl 32 _ _ rfl w1.heap.size (zbs 4) rfl rfl 32 zb Z1.out (by kernel_rfl) (by kernel_rfl) (RBk.new (fun _ => False) w 4).one ?_)
    | fail)
  change Code.wp _ _ _ _ (W2 w1 (zbs 4))
  have HB : Hid (Below w.heap.size w (W2 w1 (zbs 4))) := Lib.hid ((B0.out.trans (B1.out.mono B0.out.size)).trans ((W2.bel w1 (zbs 4)).mono (Nat.le_trans B0.out.size B1.out.size)))
  have N1 : Hid (w.heap.size < w1.heap.size) := Lib.hid (by have := B1.out.size; simp at this; omega)
  have R2 : Hid ((W2 w1 (zbs 4)).heap[w.heap.size]? = some (.cells zb 32 (0, 0))) := Lib.hid (blk_bel (W2.bel w1 (zbs 4)) (blk_bel B1.out X0.out))
  have Y2 := Lib.hid (W2.x w1 (zbs 4))
  have H2 : Hid (ST 0 (w.heap.size + 1) N (KX w.heap.size w1.heap.size) (newB 4) (newB 4) (W2 w1 (zbs 4)) (zbs 4)) := Lib.hid (ST.start (lo0 := w.heap.size) P1.out ⟨by omega, by omega⟩ (by simp) N1.out)
  clear X0 B0 B1 Z1 NW P1
  generalize W2 w1 (zbs 4) = W at *
  go_loopw [8] (fun iv wr => ∃ (k : Nat) (cs : Array Value), k ≤ min n 60 ∧ iv = .int .i64 k ∧ ST k (w.heap.size + 1) N (KX w.heap.size w1.heap.size) (playR d0 d1 d2 (newB 4) k) (playR d0 d1 d2 (newB 4) k) wr cs ∧ wr.heap[w.heap.size]? = some (.cells zb 32 (0, 0)) ∧ wr.heap[w1.heap.size]? = some (.cells cs 32 (0, 0)) ∧ Below w.heap.size w wr) (fun i _ => 60 - (intOf i).toNat)
  case atStart => exact ⟨0, zbs 4, by omega, rfl, H2.out, R2.out, Y2.out, HB.out⟩
  case round =>
    obtain ⟨k, cs, hk, rfl, hst, hr, hy, hb⟩ := hrel
    have HST := Lib.hid hst
    have HR := Lib.hid hr
    have HY := Lib.hid hy
    have HBR := Lib.hid hb
    clear hst hr hy hb H2 R2 Y2 HB
    by_cases h8 : k < n
    · have hk1 : (k : Int) < (n : Int) := by omega
      have hk0 : (0 : Int) ≤ (k : Int) := by omega
      by_cases h9 : k < 60
      · have hk2 : (k : Int) < 60 := by omega
        obtain ⟨b, off, rfl, hlt, ⟨c0, c1, c2⟩, _, w1f, w2f⟩ := (HD.out.low HBR.out).at_ h8
        obtain ⟨x0, hx0⟩ : ∃ x, x = d0 k := ⟨_, rfl⟩
        obtain ⟨x1, hx1⟩ : ∃ x, x = d1 k := ⟨_, rfl⟩
        obtain ⟨x2, hx2⟩ : ∃ x, x = d2 k := ⟨_, rfl⟩
        rw [← hx0] at c0
        rw [← hx1] at c1 w1f
        rw [← hx2] at c2 w2f
        have HPL : Hid (playR d0 d1 d2 (newB 4) (k + 1) = stepR (playR d0 d1 d2 (newB 4) k) x0 x1 x2) := Lib.hid (by rw [hx0, hx1, hx2]; rfl)
        clear hx0 hx1 hx2
        have C0 := Lib.hid c0
        have C1 := Lib.hid c1
        have C2 := Lib.hid c2
        have hbb : b < w.heap.size := by
          rcases HD.out with h | ⟨b', off', e, h, _⟩
          · omega
          · cases e; exact h
        have HLT := Lib.hid hbb
        have ZS := Lib.hid HST.out.size
        have CS := Lib.hid (step_any (HST.out.later (drew_bel wr)) (by omega) (by show w.heap.size + 1 ≤ wr.heap.size; have := HST.out.kept _ (.inl rfl); omega) (d := x0) w1f w2f)
        clear c0 c1 c2 hlt w1f w2f hbb
        go_wp2_with fail
        refine wp_region_held_drew (S := (fun V => V.cell? ⟨b, off + k * 3, none⟩ = some (.int .i64 x0) ∧ V.cell? ⟨b, off + k * 3 + 1, none⟩ = some (.int .i64 x1) ∧ V.cell? ⟨b, off + k * 3 + 2, none⟩ = some (.int .i64 x2))) (by kernel_rfl) ?_ (fun hHeld => ?_)
        · exact ⟨C0.out, C1.out, C2.out⟩
        refine wpAnyH_take (i := 0) (oi := { dst := some 33, op := Op.move (Operand.tmp 5), type := 23, pos := "law.go:76", after := #[], guard := none }) (v := ?_) rfl (by kernel_rfl) (by kernel_rfl) (by kernel_rfl) (fun _ _ _ h => h) (Or.inl ⟨by rfl, ?_⟩) hHeld ?_
        rotate_left
        · intro w hSw; clear hSw; go_simp; try with_reducible rfl
        try simp only [Act.put, List.setIfInBounds_toArray, List.set_cons_zero, List.set_cons_succ]
        refine wpAnyH_take (i := 2) (oi := { dst := some 35, op := Op.move (Operand.tmp 0), type := 22, pos := "law.go:76", after := #[], guard := none }) (v := ?_) rfl (by kernel_rfl) (by kernel_rfl) (by kernel_rfl) (fun _ _ _ h => h) (Or.inl ⟨by rfl, ?_⟩) hHeld ?_
        rotate_left
        · intro w hSw; clear hSw; go_simp; try with_reducible rfl
        try simp only [Act.put, List.setIfInBounds_toArray, List.set_cons_zero, List.set_cons_succ]
        refine wpAnyH_take (i := 3) (oi := { dst := some 36, op := Op.move (Operand.tmp 8), type := 3, pos := "law.go:76", after := #[], guard := none }) (v := ?_) rfl (by kernel_rfl) (by kernel_rfl) (by kernel_rfl) (fun _ _ _ h => h) (Or.inl ⟨by rfl, ?_⟩) hHeld ?_
        rotate_left
        · intro w hSw; clear hSw; go_simp; try with_reducible rfl
        try simp only [Act.put, List.setIfInBounds_toArray, List.set_cons_zero, List.set_cons_succ]
        refine wpAnyH_take (i := 4) (oi := { dst := some 37, op := Op.indexAddr 22 (Operand.tmp 35) (Operand.tmp 36), type := 0, pos := "law.go:76", after := #[{ on := 2, ground := Ground.data }, { on := 3, ground := Ground.data }], guard := none }) (v := ?_) rfl (by kernel_rfl) (by kernel_rfl) (by kernel_rfl) (fun _ _ _ h => h) (Or.inl ⟨by rfl, ?_⟩) hHeld ?_
        rotate_left
        · intro w hSw; clear hSw; go_simp; try with_reducible rfl
        try simp only [Act.put, List.setIfInBounds_toArray, List.set_cons_zero, List.set_cons_succ]
        refine wpAnyH_take (i := 5) (oi := { dst := some 38, op := Op.load 36 (Operand.tmp 37), type := 36, pos := "law.go:76", after := #[{ on := 4, ground := Ground.data }], guard := none }) (v := Value.agg #[.int .i64 x0, .int .i64 x1, .int .i64 x2]) rfl (by kernel_rfl) (by kernel_rfl) (by kernel_rfl) (fun _ _ _ h => h) (Or.inl ⟨by rfl, ?_⟩) hHeld ?_
        · intro V hV; have hc0 := hV.1; have hc1 := hV.2.1; have hc2 := hV.2.2; clear hV; go_simp
        try simp only [Act.put, List.setIfInBounds_toArray, List.set_cons_zero, List.set_cons_succ]
        refine wpAnyH_ready (rs := [1]) (by kernel_rfl) (by simp) ?_
        refine AllReadyH.cons (o := { dst := some 34, op := Op.load 32 (Operand.tmp 7), type := 32, pos := "law.go:76", after := #[], guard := none }) rfl (fun K hK => ?_) AllReadyH.nil
        rw [if_pos (by rfl)]
        refine wp_load_row 32 (.tmp 7) rfl w1.heap.size rfl 32 cs (0, 0) _ HY.out Try.underlying32 rfl (by rw [ZS.out]; exact info32) ?_
        refine hK.out _ _ ?_ (fun hHeld => ?_)
        · exact hHeld
        clear hK K
        try simp only [Act.put, List.setIfInBounds_toArray, List.set_cons_zero, List.set_cons_succ]
        refine wpAnyH_ready (rs := [6]) (by kernel_rfl) (by simp) ?_
        refine AllReadyH.cons (o := { dst := some 39, op := Op.call { callee := Callee.value (Operand.func 9), args := #[Operand.tmp 33, Operand.tmp 34, Operand.tmp 38], argTypes := #[23, 32, 36] }, type := 33, pos := "law.go:76", after := #[{ on := 0, ground := Ground.data }, { on := 1, ground := Ground.data }, { on := 5, ground := Ground.data }], guard := none }) rfl (fun K hK => ?_) AllReadyH.nil
        go_simp
        go_at_call 9; ((with_reducible refine (CS.out).mono ?_); rintro e w2 ⟨cs', rfl, h2, b2, k2⟩; have H2 := Lib.hid h2; have B2 := Lib.hid b2; have HY2 := Lib.hid ((k2 _ (.inr rfl)).trans HY.out); have HR2 := Lib.hid ((k2 _ (.inl rfl)).trans HR.out); have ZS2 := Lib.hid h2.size; have ZO2 := Lib.hid h2.one; have CC := Lib.hid (And.intro ((bel_cell b2 (by have := HLT.out; omega)).trans C0.out) (And.intro ((bel_cell b2 (by have := HLT.out; omega)).trans C1.out) ((bel_cell b2 (by have := HLT.out; omega)).trans C2.out))); clear h2 b2 k2)
        try go_wp2_with fail
        refine hK.out _ _ ?_ (fun hHeld => ?_)
        · exact CC.out
        clear hK K
        try simp only [Act.put, List.setIfInBounds_toArray, List.set_cons_zero, List.set_cons_succ]
        refine wpAnyH_take (i := 7) (oi := { dst := some 32, op := Op.move (Operand.tmp 39), type := 33, pos := "law.go:76", after := #[{ on := 6, ground := Ground.data }], guard := none }) (v := ?_) rfl (by kernel_rfl) (by kernel_rfl) (by kernel_rfl) (fun _ _ _ h => h) (Or.inl ⟨by rfl, ?_⟩) hHeld ?_
        rotate_left
        · intro w hSw; clear hSw; go_simp; try with_reducible rfl
        try simp only [Act.put, List.setIfInBounds_toArray, List.set_cons_zero, List.set_cons_succ]
        refine wpAnyH_take (i := 8) (oi := { dst := some 40, op := Op.extract (Operand.tmp 32) 0, type := 32, pos := "law.go:76", after := #[{ on := 7, ground := Ground.data }], guard := none }) (v := ?_) rfl (by kernel_rfl) (by kernel_rfl) (by kernel_rfl) (fun _ _ _ h => h) (Or.inl ⟨by rfl, ?_⟩) hHeld ?_
        rotate_left
        · intro w hSw; clear hSw; go_simp; try with_reducible rfl
        try simp only [Act.put, List.setIfInBounds_toArray, List.set_cons_zero, List.set_cons_succ]
        refine wpAnyH_take (i := 9) (oi := { dst := some 41, op := Op.extract (Operand.tmp 32) 1, type := 4, pos := "law.go:76", after := #[{ on := 7, ground := Ground.data }, { on := 10, ground := Ground.gcOnly Departure.lateStores }], guard := none }) (v := ?_) rfl (by kernel_rfl) (by kernel_rfl) (by kernel_rfl) (fun _ _ _ h => h) (Or.inl ⟨by rfl, ?_⟩) hHeld ?_
        rotate_left
        · intro w hSw; clear hSw; go_simp; try with_reducible rfl
        try simp only [Act.put, List.setIfInBounds_toArray, List.set_cons_zero, List.set_cons_succ]
        refine wpAnyH_ready (rs := [10]) (by kernel_rfl) (by simp) ?_
        refine AllReadyH.cons (o := { dst := none, op := Op.store 32 (Operand.tmp 7) (Operand.tmp 40), type := 0, pos := "law.go:76", after := #[{ on := 8, ground := Ground.data }, { on := 6, ground := Ground.chain }, { on := 0, ground := Ground.phase }, { on := 1, ground := Ground.phase }, { on := 2, ground := Ground.phase }, { on := 3, ground := Ground.phase }, { on := 4, ground := Ground.phase }, { on := 5, ground := Ground.phase }, { on := 6, ground := Ground.phase }, { on := 7, ground := Ground.phase }, { on := 8, ground := Ground.phase }, { on := 9, ground := Ground.textOnly Departure.lateStores }], guard := none }) rfl (fun K hK => ?_) AllReadyH.nil
        rw [if_pos (by rfl)]
        refine wp_store_row 32 (.tmp 7) (.tmp 40) rfl w1.heap.size cs' rfl rfl 32 cs HY2.out (by rw [ZS2.out]; exact info32) (by rw [ZS2.out]; exact ZS.out) ZO2.out ?_
        refine hK.out _ _ ?_ (fun hHeld => ?_)
        · exact ⟨(cell_setRow (by have := HLT.out; have := N1.out; omega)).trans CC.out.1, (cell_setRow (by have := HLT.out; have := N1.out; omega)).trans CC.out.2.1, (cell_setRow (by have := HLT.out; have := N1.out; omega)).trans CC.out.2.2⟩
        clear hK K
        try simp only [Act.put, List.setIfInBounds_toArray, List.set_cons_zero, List.set_cons_succ]
        refine wpAnyH_done (by kernel_rfl) ?_ _
        go_wp2_with fail
        have HG := Lib.hid (grown_row (w := w2) (N := w1.heap.size) (cs := cs'))
        refine ⟨⟨k + 1, cs', by omega, by simp, ?_, (setRow_other _ _ _ _ (by have := N1.out; omega)).trans HR2.out, setRow_heap _ _ _ _ _ _ HY2.out, below_setRow (HBR.out.trans ((drew_bel wr).mono HBR.out.size |>.trans (B2.out.mono (by omega)))) (by have := N1.out; omega) _⟩, by simp [intOf]; omega⟩
        rw [HPL.out]
        exact H2.out.apart HG.out (.inr rfl)
      · have hk2 : ¬ (k : Int) < 60 := by omega
        have ZS := Lib.hid HST.out.size
        have ZO := Lib.hid HST.out.one
        have HKE : Hid (min n 60 = k) := Lib.hid (by omega)
        go_wp2_with fail
        refine wp_region_held_drew (S := (fun V => V.heap[w1.heap.size]? = some (.cells cs 32 (0, 0)))) (by kernel_rfl) ?_ (fun hHeld => ?_)
        · exact HY.out
        refine wpAnyH_take (i := 0) (oi := { dst := some 42, op := Op.move (Operand.tmp 5), type := 23, pos := "law.go:78", after := #[], guard := none }) (v := ?_) rfl (by kernel_rfl) (by kernel_rfl) (by kernel_rfl) (fun _ _ _ h => h) (Or.inl ⟨by rfl, ?_⟩) hHeld ?_
        rotate_left
        · intro w hSw; clear hSw; go_simp; try with_reducible rfl
        try simp only [Act.put, List.setIfInBounds_toArray, List.set_cons_zero, List.set_cons_succ]
        refine wpAnyH_take (i := 1) (oi := { dst := some 43, op := Op.load 32 (Operand.tmp 7), type := 32, pos := "law.go:78", after := #[{ on := 2, ground := Ground.gcOnly Departure.lateStores }], guard := none }) (v := Value.agg cs) rfl (by kernel_rfl) (by kernel_rfl) (by kernel_rfl) (fun _ _ _ h => h) (Or.inl ⟨by rfl, fun V hV => ex_load_row (.tmp 7) rfl w1.heap.size rfl cs hV ZS.out⟩) hHeld ?_
        try simp only [Act.put, List.setIfInBounds_toArray, List.set_cons_zero, List.set_cons_succ]
        refine wpAnyH_take (i := 2) (oi := { dst := some 2, op := Op.assign (Operand.tmp 42), type := 23, pos := "law.go:78", after := #[{ on := 0, ground := Ground.data }, { on := 0, ground := Ground.phase }, { on := 1, ground := Ground.textOnly Departure.lateStores }], guard := none }) (v := ?_) rfl (by kernel_rfl) (by kernel_rfl) (by kernel_rfl) (fun _ _ _ h => h) (Or.inl ⟨by rfl, ?_⟩) hHeld ?_
        rotate_left
        · intro w hSw; clear hSw; go_simp; try with_reducible rfl
        try simp only [Act.put, List.setIfInBounds_toArray, List.set_cons_zero, List.set_cons_succ]
        refine wpAnyH_ready (rs := [3]) (by kernel_rfl) (by simp) ?_
        refine AllReadyH.cons (o := { dst := none, op := Op.store 32 (Operand.tmp 3) (Operand.tmp 43), type := 0, pos := "law.go:78", after := #[{ on := 1, ground := Ground.data }, { on := 2, ground := Ground.chain }, { on := 0, ground := Ground.phase }, { on := 1, ground := Ground.phase }, { on := 2, ground := Ground.phase }], guard := none }) rfl (fun K hK => ?_) AllReadyH.nil
        rw [if_pos (by rfl)]
        refine wp_store_row 32 (.tmp 3) (.tmp 43) rfl w.heap.size cs rfl rfl 32 zb HR.out (by rw [ZS.out]; exact info32) (by rw [ZS.out]; exact zb_size) ZO.out ?_
        refine hK.out _ _ ?_ (fun hHeld => ?_)
        · exact (setRow_other _ _ _ _ (by have := N1.out; omega)).trans HY.out
        clear hK K
        try simp only [Act.put, List.setIfInBounds_toArray, List.set_cons_zero, List.set_cons_succ]
        refine wpAnyH_take (i := 4) (oi := { dst := some 4, op := Op.assign (Operand.const (Value.bool true)), type := 4, pos := "law.go:78", after := #[{ on := 3, ground := Ground.chain }, { on := 0, ground := Ground.phase }, { on := 1, ground := Ground.phase }, { on := 2, ground := Ground.phase }, { on := 3, ground := Ground.phase }], guard := none }) (v := ?_) rfl (by kernel_rfl) (by kernel_rfl) (by kernel_rfl) (fun _ _ _ h => h) (Or.inl ⟨by rfl, ?_⟩) hHeld ?_
        rotate_left
        · intro w hSw; clear hSw; go_simp; try with_reducible rfl
        try simp only [Act.put, List.setIfInBounds_toArray, List.set_cons_zero, List.set_cons_succ]
        refine wpAnyH_done (by kernel_rfl) ?_ _
        go_wp2_with fail
        have HG := Lib.hid (grown_row (w := wr.drew) (N := w.heap.size) (cs := cs))
        refine bodyPost_ret (v := .tuple #[.pointer (some ⟨N, 0, none⟩), .agg cs, .bool true]) ?_ rfl ⟨N, cs, rfl, by rw [HKE.out]; exact ((((HST.out.later (drew_bel wr)).apart HG.out (.inl rfl)).less (K' := fun _ => False) (fun _ h => h.elim)).more (c' := 60) (by omega)).down (Nat.le_succ _), below_setRow (HBR.out.trans ((drew_bel wr).mono HBR.out.size)) (Nat.le_refl _) _⟩
        exact res11 _ _ w.heap.size cs _ _ rfl rfl rfl (setRow_heap _ _ _ _ _ _ HR.out) (by rw [ZS.out]; exact info32)
    · have hk1 : ¬ (k : Int) < (n : Int) := by omega
      have ZS := Lib.hid HST.out.size
      have ZO := Lib.hid HST.out.one
      have HKE : Hid (min n 60 = k) := Lib.hid (by omega)
      go_wp2_with fail
      refine wp_region_held_drew (S := (fun V => V.heap[w1.heap.size]? = some (.cells cs 32 (0, 0)))) (by kernel_rfl) ?_ (fun hHeld => ?_)
      · exact HY.out
      refine wpAnyH_take (i := 0) (oi := { dst := some 42, op := Op.move (Operand.tmp 5), type := 23, pos := "law.go:78", after := #[], guard := none }) (v := ?_) rfl (by kernel_rfl) (by kernel_rfl) (by kernel_rfl) (fun _ _ _ h => h) (Or.inl ⟨by rfl, ?_⟩) hHeld ?_
      rotate_left
      · intro w hSw; clear hSw; go_simp; try with_reducible rfl
      try simp only [Act.put, List.setIfInBounds_toArray, List.set_cons_zero, List.set_cons_succ]
      refine wpAnyH_take (i := 1) (oi := { dst := some 43, op := Op.load 32 (Operand.tmp 7), type := 32, pos := "law.go:78", after := #[{ on := 2, ground := Ground.gcOnly Departure.lateStores }], guard := none }) (v := Value.agg cs) rfl (by kernel_rfl) (by kernel_rfl) (by kernel_rfl) (fun _ _ _ h => h) (Or.inl ⟨by rfl, fun V hV => ex_load_row (.tmp 7) rfl w1.heap.size rfl cs hV ZS.out⟩) hHeld ?_
      try simp only [Act.put, List.setIfInBounds_toArray, List.set_cons_zero, List.set_cons_succ]
      refine wpAnyH_take (i := 2) (oi := { dst := some 2, op := Op.assign (Operand.tmp 42), type := 23, pos := "law.go:78", after := #[{ on := 0, ground := Ground.data }, { on := 0, ground := Ground.phase }, { on := 1, ground := Ground.textOnly Departure.lateStores }], guard := none }) (v := ?_) rfl (by kernel_rfl) (by kernel_rfl) (by kernel_rfl) (fun _ _ _ h => h) (Or.inl ⟨by rfl, ?_⟩) hHeld ?_
      rotate_left
      · intro w hSw; clear hSw; go_simp; try with_reducible rfl
      try simp only [Act.put, List.setIfInBounds_toArray, List.set_cons_zero, List.set_cons_succ]
      refine wpAnyH_ready (rs := [3]) (by kernel_rfl) (by simp) ?_
      refine AllReadyH.cons (o := { dst := none, op := Op.store 32 (Operand.tmp 3) (Operand.tmp 43), type := 0, pos := "law.go:78", after := #[{ on := 1, ground := Ground.data }, { on := 2, ground := Ground.chain }, { on := 0, ground := Ground.phase }, { on := 1, ground := Ground.phase }, { on := 2, ground := Ground.phase }], guard := none }) rfl (fun K hK => ?_) AllReadyH.nil
      rw [if_pos (by rfl)]
      refine wp_store_row 32 (.tmp 3) (.tmp 43) rfl w.heap.size cs rfl rfl 32 zb HR.out (by rw [ZS.out]; exact info32) (by rw [ZS.out]; exact zb_size) ZO.out ?_
      refine hK.out _ _ ?_ (fun hHeld => ?_)
      · exact (setRow_other _ _ _ _ (by have := N1.out; omega)).trans HY.out
      clear hK K
      try simp only [Act.put, List.setIfInBounds_toArray, List.set_cons_zero, List.set_cons_succ]
      refine wpAnyH_take (i := 4) (oi := { dst := some 4, op := Op.assign (Operand.const (Value.bool true)), type := 4, pos := "law.go:78", after := #[{ on := 3, ground := Ground.chain }, { on := 0, ground := Ground.phase }, { on := 1, ground := Ground.phase }, { on := 2, ground := Ground.phase }, { on := 3, ground := Ground.phase }], guard := none }) (v := ?_) rfl (by kernel_rfl) (by kernel_rfl) (by kernel_rfl) (fun _ _ _ h => h) (Or.inl ⟨by rfl, ?_⟩) hHeld ?_
      rotate_left
      · intro w hSw; clear hSw; go_simp; try with_reducible rfl
      try simp only [Act.put, List.setIfInBounds_toArray, List.set_cons_zero, List.set_cons_succ]
      refine wpAnyH_done (by kernel_rfl) ?_ _
      go_wp2_with fail
      have HG := Lib.hid (grown_row (w := wr.drew) (N := w.heap.size) (cs := cs))
      refine bodyPost_ret (v := .tuple #[.pointer (some ⟨N, 0, none⟩), .agg cs, .bool true]) ?_ rfl ⟨N, cs, rfl, by rw [HKE.out]; exact ((((HST.out.later (drew_bel wr)).apart HG.out (.inl rfl)).less (K' := fun _ => False) (fun _ h => h.elim)).more (c' := 60) (by omega)).down (Nat.le_succ _), below_setRow (HBR.out.trans ((drew_bel wr).mono HBR.out.size)) (Nat.le_refl _) _⟩
      exact res11 _ _ w.heap.size cs _ _ rfl rfl rfl (setRow_heap _ _ _ _ _ _ HR.out) (by rw [ZS.out]; exact info32)
end Go.Proofs.Ytlffigkjhhcohaa
