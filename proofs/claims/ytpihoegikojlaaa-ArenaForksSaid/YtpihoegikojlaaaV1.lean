/- The deeds are played. -/
import Derived.Test.YtpihoegikojlaaaU1
namespace Go.Proofs.Ytpihoegikojlaaa
set_option linter.unusedSimpArgs false
open Go.RowKit Go.Maps
set_option linter.unusedVariables false
variable {F : Nat → Prop}

theorem step_most (b : AB) (iv : IV b) (x i n : Int) : (stepA b x i n).most = b.most := by
  have ht : ∀ (c : AB) (v : Int), IV c → (takeA c v).most = c.most := by
    intro c v hc
    rcases take_ways hc v with ⟨_, e, _⟩ | ⟨_, _, _, e, _⟩ | ⟨_, l, i, _, _, _, _, e, _⟩ <;> rw [e] <;> rfl
  have hm : ∀ (k : Nat) (v : Int), (manyA b v k).most = b.most := by
    intro k v
    induction k with
    | zero => rfl
    | succ k ih => show (takeA (manyA b v k) v).most = _; rw [ht _ _ (iv.many v k), ih]
  unfold stepA
  split
  · exact ht b n iv
  · split
    · unfold manyB; split
      · rfl
      · split
        · rfl
        · exact hm _ _
    · split
      · unfold giveA; split <;> rfl
      · split
        · unfold setA; split <;> rfl
        · rfl
theorem IV.step {b : AB} (iv : IV b) (x i n : Int) : IV (stepA b x i n) := by
  unfold stepA
  split
  · exact iv.take n
  · split
    · exact iv.manyB n i
    · split
      · exact iv.give i
      · split
        · exact iv.set i n
        · exact iv
theorem play_most (d0 d1 d2 : Nat → Int) (b : AB) (iv : IV b) (k : Nat) : (playR d0 d1 d2 b k).most = b.most ∧ IV (playR d0 d1 d2 b k) := by
  induction k with
  | zero => exact ⟨rfl, iv⟩
  | succ k ih => exact ⟨(step_most _ ih.2 _ _ _).trans ih.1, ih.2.step _ _ _⟩
theorem SB3 (w w1 : World) (M : Int) (p : Nat) (hp : p < w.heap.size) (h : 1 ≤ M) (h2 : M ≤ 60) (hb : Below (w.alloc (.cells #[.int .i64 M, .slice none 0 0, .slice none 0 0] 61)).heap.size (w.alloc (.cells #[.int .i64 M, .slice none 0 0, .slice none 0 0] 61)) w1) : ST w.heap.size w.heap.size (fun g => g = w1.heap.size ∨ g = p) (newB M) (newB M) (W2 w1 (zbs M)) (zbs M) := by
  have hs := hb.size
  rw [World.size_alloc] at hs
  have h0 : ST w.heap.size w.heap.size (fun g => g = p) (newB M) (newB M) w1 (zbs M) :=
    ⟨none, none, 0, 0, (PA.new w M).later hb, RBk.new _ _ _, IV.new M h h2, IV.new M h h2, fun g hg => ⟨by omega, by rintro (e | e | e); omega; simp at e; simp [fpr] at e⟩⟩
  refine h0.wide (W2.bel _ _) _ ?_
  rintro g (e | e)
  · exact .inr ⟨by omega, by rw [W2.size]; omega⟩
  · exact .inl e
/-- What the deeds leave. -/
def PlayPost (w : World) (b : AB) (e : Ending) (w' : World) : Prop := ∃ cs', e = .returned (.tuple #[.pointer (some ⟨w.heap.size + 1, 0, none⟩), .agg cs', .bool true]) ∧ ST (w.heap.size + 1) (w.heap.size + 1) (fun _ => False) b b w' cs' ∧ Below w.heap.size w w'
theorem res12 (tmps : Array Value) (w : World) (g : Nat) (cs : Array Value) (U V : Value) (hu : tmps.getD 2 undef = U) (hp : tmps.getD 3 undef = .pointer (some ⟨g, 0, none⟩)) (hv : tmps.getD 4 undef = V) (hg : w.heap[g]? = some (.cells cs 33 (0, 0))) (hi : (Try.prog.info? 33).map (·.size) = some cs.size) :
    (results Try.f12 tmps).run Try.prog w = .ok (.tuple #[U, .agg cs, V]) w := by
  have hp' : tmps[3]?.getD undef = .pointer (some ⟨g, 0, none⟩) := by simpa using hp
  have hu' : tmps[2]?.getD undef = U := by simpa using hu
  have hv' : tmps[4]?.getD undef = V := by simpa using hv
  simp [results, Try.results12, hp', hu', hv', asAddr, run_loadVar_row w g 33 33 cs (0, 0) _ hg Try.underlying33 rfl hi]

set_option maxRecDepth 4000 in
set_option maxHeartbeats 2000000 in
theorem played_any (A : Option Addr) (n cap : Nat) (d0 d1 d2 : Nat → Int) (w : World) (hD : Deeds w A n d0 d1 d2) (hn : n ≤ maxLen) :
    Calls Try.prog 12 #[.slice A n cap] w (PlayPost w (playR d0 d1 d2 (newB 12) (min n 60))) := by
  have hal := run_zb
  have HD := Lib.hid hD
  have NW := Lib.hid (newI_ok 12 (w.alloc (.cells zb 33)) (by omega) (by omega))
  have HZ0 := Lib.hid (heap_alloc_new w (.cells zb 33))
  clear hD
  go_enter Try.func12, Try.ntmps12
  go_wp2_with (first
    | (go_at_call 7; ((with_reducible refine NW.out.mono ?_); rintro e w1 ⟨rfl, hw1⟩; have HW1 := Lib.hid hw1; have Z1 := Lib.hid (heap_alloc_new w1 (.cells zb 33)); clear hw1))
    | (refine wpList_build rfl 33 _ rfl (by kernel_rfl) ?_; rw [show ((Try.prog.built 33 ((#[(0, _)] : Array (Nat × Operand)).map _).toList)) = some (zbs 12) from built_zbs 12]; rw [Option.getD_some])
    | (refine wpList_store_row rfl 33 _ _ rfl w1.heap.size (zbs 12) rfl rfl 33 zb Z1.out (by kernel_rfl) (by kernel_rfl) (RBk.new (fun _ => False) w 12).one ?_)
    | fail)
  change Code.wp _ _ _ _ (W2 w1 (zbs 12))
  have hb1 : Below (w.alloc (.cells zb 33)).heap.size (w.alloc (.cells zb 33)) w1 := by rw [HW1.out]; go_grown
  have hs1 : w1.heap.size = w.heap.size + 2 := by rw [HW1.out]; simp
  have H2 : Hid (ST (w.heap.size + 1) (w.heap.size + 1) (fun g => g = w1.heap.size ∨ g = w.heap.size) (newB 12) (newB 12) (W2 w1 (zbs 12)) (zbs 12)) := Lib.hid (by
    have h := SB3 (w.alloc (.cells zb 33)) w1 12 w.heap.size (by simp) (by omega) (by omega) (by rw [← HW1.out]; exact Below.refl _ _)
    rw [World.size_alloc] at h; exact h)
  have HB : Hid (Below w.heap.size w (W2 w1 (zbs 12))) := Lib.hid (((by go_grown : Below w.heap.size w (w.alloc (.cells zb 33))).trans (hb1.mono (by simp))).trans ((W2.bel w1 (zbs 12)).mono (by omega)))
  have N1 : Hid (w1.heap.size = w.heap.size + 2) := Lib.hid hs1
  have Y2 := Lib.hid (W2.x w1 (zbs 12))
  have ZZ : Hid ((W2 w1 (zbs 12)).heap[w.heap.size]? = some (.cells zb 33 (0, 0))) := Lib.hid (blk_bel (W2.bel w1 (zbs 12)) (blk_bel hb1 HZ0.out))
  clear Z1 NW hb1 HW1 hs1 HZ0
  generalize W2 w1 (zbs 12) = W at *
  go_loopw [8] (fun iv wr => ∃ (k : Nat) (cs : Array Value), k ≤ min n 60 ∧ iv = .int .i64 k ∧ ST (w.heap.size + 1) (w.heap.size + 1) (fun g => g = w1.heap.size ∨ g = w.heap.size) (playR d0 d1 d2 (newB 12) k) (playR d0 d1 d2 (newB 12) k) wr cs ∧ wr.heap[w1.heap.size]? = some (.cells cs 33 (0, 0)) ∧ wr.heap[w.heap.size]? = some (.cells zb 33 (0, 0)) ∧ Below w.heap.size w wr) (fun i _ => 60 - (intOf i).toNat)
  case atStart => exact ⟨0, zbs 12, by omega, rfl, H2.out, Y2.out, ZZ.out, HB.out⟩
  case round =>
    obtain ⟨k, cs, hk, rfl, hst, hy, hz, hb⟩ := hrel
    have HST := Lib.hid hst
    have HY := Lib.hid hy
    have HZ := Lib.hid hz
    have HBR := Lib.hid hb
    clear hst hy hb hz H2 Y2 HB ZZ
    by_cases h89 : k < n ∧ k < 60
    · obtain ⟨h8, h9⟩ := h89
      have hk1 : (k : Int) < (n : Int) := by omega
      have hk0 : (0 : Int) ≤ (k : Int) := by omega
      have hk2 : (k : Int) < 60 := by omega
      obtain ⟨b, off, rfl, hlt, ⟨c0, c1, c2⟩, _, w1f, w2f⟩ := (HD.out.low HBR.out).at_ h8
      obtain ⟨x0, hx0⟩ : ∃ x, x = d0 k := ⟨_, rfl⟩
      obtain ⟨x1, hx1⟩ : ∃ x, x = d1 k := ⟨_, rfl⟩
      obtain ⟨x2, hx2⟩ : ∃ x, x = d2 k := ⟨_, rfl⟩
      rw [← hx0] at c0
      rw [← hx1] at c1 w1f
      rw [← hx2] at c2 w2f
      have HPL : Hid (playR d0 d1 d2 (newB 12) (k + 1) = stepA (playR d0 d1 d2 (newB 12) k) x0 x1 x2) := Lib.hid (by rw [hx0, hx1, hx2]; rfl)
      clear hx0 hx1 hx2
      have C0 := Lib.hid c0
      have C1 := Lib.hid c1
      have C2 := Lib.hid c2
      have hbb : b < w.heap.size := by
        rcases HD.out with h | ⟨b', off', e, h, _⟩
        · omega
        · cases e; exact h
      have HLT := Lib.hid hbb
      have ZS := Lib.hid HST.out.size
      have CS := Lib.hid (step_any (HST.out.later (drew_bel wr)) (by have := (Array.getElem?_eq_some_iff.1 HY.out).1; have := N1.out; show w.heap.size + 1 ≤ wr.heap.size; omega) x0 x1 x2)
      clear c0 c1 c2 hlt w1f w2f hbb
      go_wp2_with fail
      refine wp_region_held_drew (S := (fun V => V.cell? ⟨b, off + k * 3, none⟩ = some (.int .i64 x0) ∧ V.cell? ⟨b, off + k * 3 + 1, none⟩ = some (.int .i64 x1) ∧ V.cell? ⟨b, off + k * 3 + 2, none⟩ = some (.int .i64 x2))) (by kernel_rfl) ?_ (fun hHeld => ?_)
      · exact ⟨C0.out, C1.out, C2.out⟩
      refine wpAnyH_take (i := 0) (oi := { dst := some 32, op := Op.move (Operand.tmp 5), type := 23, pos := "law.go:112", after := #[], guard := none }) (v := ?_) rfl (by kernel_rfl) (by kernel_rfl) (by kernel_rfl) (fun _ _ _ h => h) (Or.inl ⟨by rfl, ?_⟩) hHeld ?_
      rotate_left
      · intro w hSw; clear hSw; go_simp; try with_reducible rfl
      try simp only [Act.put, List.setIfInBounds_toArray, List.set_cons_zero, List.set_cons_succ]
      refine wpAnyH_take (i := 2) (oi := { dst := some 34, op := Op.move (Operand.tmp 0), type := 22, pos := "law.go:112", after := #[], guard := none }) (v := ?_) rfl (by kernel_rfl) (by kernel_rfl) (by kernel_rfl) (fun _ _ _ h => h) (Or.inl ⟨by rfl, ?_⟩) hHeld ?_
      rotate_left
      · intro w hSw; clear hSw; go_simp; try with_reducible rfl
      try simp only [Act.put, List.setIfInBounds_toArray, List.set_cons_zero, List.set_cons_succ]
      refine wpAnyH_take (i := 3) (oi := { dst := some 35, op := Op.move (Operand.tmp 8), type := 3, pos := "law.go:112", after := #[], guard := none }) (v := ?_) rfl (by kernel_rfl) (by kernel_rfl) (by kernel_rfl) (fun _ _ _ h => h) (Or.inl ⟨by rfl, ?_⟩) hHeld ?_
      rotate_left
      · intro w hSw; clear hSw; go_simp; try with_reducible rfl
      try simp only [Act.put, List.setIfInBounds_toArray, List.set_cons_zero, List.set_cons_succ]
      refine wpAnyH_take (i := 4) (oi := { dst := some 36, op := Op.indexAddr 22 (Operand.tmp 34) (Operand.tmp 35), type := 0, pos := "law.go:112", after := #[{ on := 2, ground := Ground.data }, { on := 3, ground := Ground.data }], guard := none }) (v := ?_) rfl (by kernel_rfl) (by kernel_rfl) (by kernel_rfl) (fun _ _ _ h => h) (Or.inl ⟨by rfl, ?_⟩) hHeld ?_
      rotate_left
      · intro w hSw; clear hSw; go_simp; try with_reducible rfl
      try simp only [Act.put, List.setIfInBounds_toArray, List.set_cons_zero, List.set_cons_succ]
      refine wpAnyH_take (i := 5) (oi := { dst := some 37, op := Op.load 37 (Operand.tmp 36), type := 37, pos := "law.go:112", after := #[{ on := 4, ground := Ground.data }], guard := none }) (v := Value.agg #[.int .i64 x0, .int .i64 x1, .int .i64 x2]) rfl (by kernel_rfl) (by kernel_rfl) (by kernel_rfl) (fun _ _ _ h => h) (Or.inl ⟨by rfl, ?_⟩) hHeld ?_
      · intro V hV; have hc0 := hV.1; have hc1 := hV.2.1; have hc2 := hV.2.2; clear hV; go_simp
      try simp only [Act.put, List.setIfInBounds_toArray, List.set_cons_zero, List.set_cons_succ]
      refine wpAnyH_ready (rs := [1]) (by kernel_rfl) (by simp) ?_
      refine AllReadyH.cons (o := { dst := some 33, op := Op.load 33 (Operand.tmp 7), type := 33, pos := "law.go:112", after := #[], guard := none }) rfl (fun K hK => ?_) AllReadyH.nil
      rw [if_pos (by rfl)]
      refine wp_load_row 33 (.tmp 7) rfl w1.heap.size rfl 33 cs (0, 0) _ HY.out Try.underlying33 rfl (by rw [ZS.out]; exact info33) ?_
      refine hK.out _ _ ?_ (fun hHeld => ?_)
      · exact hHeld
      clear hK K
      try simp only [Act.put, List.setIfInBounds_toArray, List.set_cons_zero, List.set_cons_succ]
      refine wpAnyH_ready (rs := [6]) (by kernel_rfl) (by simp) ?_
      refine AllReadyH.cons (o := { dst := some 38, op := Op.call { callee := Callee.value (Operand.func 10), args := #[Operand.tmp 32, Operand.tmp 33, Operand.tmp 37], argTypes := #[23, 33, 37] }, type := 34, pos := "law.go:112", after := #[{ on := 0, ground := Ground.data }, { on := 1, ground := Ground.data }, { on := 5, ground := Ground.data }], guard := none }) rfl (fun K hK => ?_) AllReadyH.nil
      go_simp
      go_at_call 10; ((with_reducible refine (CS.out).mono ?_); rintro e w2 ⟨cs', rfl, h2, b2, k2⟩; have H2 := Lib.hid h2; have B2 := Lib.hid b2; have HY2 := Lib.hid ((k2 _ (.inl rfl)).trans HY.out); have HZ2 := Lib.hid ((k2 _ (.inr rfl)).trans HZ.out); have ZS2 := Lib.hid h2.size; have ZO2 := Lib.hid h2.one; have CC := Lib.hid (And.intro ((bel_cell b2 (by have := HLT.out; omega)).trans C0.out) (And.intro ((bel_cell b2 (by have := HLT.out; omega)).trans C1.out) ((bel_cell b2 (by have := HLT.out; omega)).trans C2.out))); clear h2 b2 k2)
      try go_wp2_with fail
      refine hK.out _ _ ?_ (fun hHeld => ?_)
      · exact CC.out
      clear hK K
      try simp only [Act.put, List.setIfInBounds_toArray, List.set_cons_zero, List.set_cons_succ]
      refine wpAnyH_take (i := 7) (oi := { dst := some 31, op := Op.move (Operand.tmp 38), type := 34, pos := "law.go:112", after := #[{ on := 6, ground := Ground.data }], guard := none }) (v := ?_) rfl (by kernel_rfl) (by kernel_rfl) (by kernel_rfl) (fun _ _ _ h => h) (Or.inl ⟨by rfl, ?_⟩) hHeld ?_
      rotate_left
      · intro w hSw; clear hSw; go_simp; try with_reducible rfl
      try simp only [Act.put, List.setIfInBounds_toArray, List.set_cons_zero, List.set_cons_succ]
      refine wpAnyH_take (i := 8) (oi := { dst := some 39, op := Op.extract (Operand.tmp 31) 0, type := 33, pos := "law.go:112", after := #[{ on := 7, ground := Ground.data }], guard := none }) (v := ?_) rfl (by kernel_rfl) (by kernel_rfl) (by kernel_rfl) (fun _ _ _ h => h) (Or.inl ⟨by rfl, ?_⟩) hHeld ?_
      rotate_left
      · intro w hSw; clear hSw; go_simp; try with_reducible rfl
      try simp only [Act.put, List.setIfInBounds_toArray, List.set_cons_zero, List.set_cons_succ]
      refine wpAnyH_take (i := 9) (oi := { dst := some 40, op := Op.extract (Operand.tmp 31) 1, type := 4, pos := "law.go:112", after := #[{ on := 7, ground := Ground.data }, { on := 10, ground := Ground.gcOnly Departure.lateStores }], guard := none }) (v := ?_) rfl (by kernel_rfl) (by kernel_rfl) (by kernel_rfl) (fun _ _ _ h => h) (Or.inl ⟨by rfl, ?_⟩) hHeld ?_
      rotate_left
      · intro w hSw; clear hSw; go_simp; try with_reducible rfl
      try simp only [Act.put, List.setIfInBounds_toArray, List.set_cons_zero, List.set_cons_succ]
      refine wpAnyH_ready (rs := [10]) (by kernel_rfl) (by simp) ?_
      refine AllReadyH.cons (o := { dst := none, op := Op.store 33 (Operand.tmp 7) (Operand.tmp 39), type := 0, pos := "law.go:112", after := #[{ on := 8, ground := Ground.data }, { on := 6, ground := Ground.chain }, { on := 0, ground := Ground.phase }, { on := 1, ground := Ground.phase }, { on := 2, ground := Ground.phase }, { on := 3, ground := Ground.phase }, { on := 4, ground := Ground.phase }, { on := 5, ground := Ground.phase }, { on := 6, ground := Ground.phase }, { on := 7, ground := Ground.phase }, { on := 8, ground := Ground.phase }, { on := 9, ground := Ground.textOnly Departure.lateStores }], guard := none }) rfl (fun K hK => ?_) AllReadyH.nil
      rw [if_pos (by rfl)]
      refine wp_store_row 33 (.tmp 7) (.tmp 39) rfl w1.heap.size cs' rfl rfl 33 cs HY2.out (by rw [ZS2.out]; exact info33) (by rw [ZS2.out]; exact ZS.out) ZO2.out ?_
      refine hK.out _ _ ?_ (fun hHeld => ?_)
      · exact ⟨(cell_setRow (by have := HLT.out; have := N1.out; omega)).trans CC.out.1, (cell_setRow (by have := HLT.out; have := N1.out; omega)).trans CC.out.2.1, (cell_setRow (by have := HLT.out; have := N1.out; omega)).trans CC.out.2.2⟩
      clear hK K
      try simp only [Act.put, List.setIfInBounds_toArray, List.set_cons_zero, List.set_cons_succ]
      refine wpAnyH_done (by kernel_rfl) ?_ _
      have HG := Lib.hid (grown_row (w := w2) (N := w1.heap.size) (cs := cs'))
      have H4 := Lib.hid (H2.out.apart HG.out (.inl rfl))
      have HY4 := Lib.hid (setRow_heap _ _ _ cs' _ _ HY2.out)
      have HZ4 : Hid ((w2.setRow w1.heap.size cs').heap[w.heap.size]? = some (.cells zb 33 (0, 0))) := Lib.hid ((setRow_other _ _ _ _ (by have := N1.out; omega)).trans HZ2.out)
      have B4 : Hid (Below w.heap.size w (w2.setRow w1.heap.size cs')) := Lib.hid (below_setRow (HBR.out.trans ((drew_bel wr).mono HBR.out.size |>.trans (B2.out.mono (by omega)))) (by have := N1.out; omega) _)
      clear HG H2 B2 HY2 HZ2
      go_wp2_with fail
      refine ⟨⟨k + 1, cs', by omega, by simp, ?_, HY4.out, HZ4.out, B4.out⟩, by simp [intOf]; omega⟩
      rw [HPL.out]
      exact H4.out
    · have e60 : k = min n 60 := by omega
      have HE := Lib.hid e60
      have ZS := Lib.hid HST.out.size
      have ZO := Lib.hid HST.out.one
      clear e60
      by_cases h8 : k < n
      · have hk1 : (k : Int) < (n : Int) := by omega
        have hk2 : ¬ (k : Int) < 60 := by omega
        go_wp2_with fail
        refine wp_region_held_drew (S := (fun V => V.heap[w1.heap.size]? = some (.cells cs 33 (0, 0)))) (by kernel_rfl) ?_ (fun hHeld => ?_)
        · exact HY.out
        refine wpAnyH_take (i := 0) (oi := { dst := some 41, op := Op.move (Operand.tmp 5), type := 23, pos := "law.go:114", after := #[], guard := none }) (v := ?_) rfl (by kernel_rfl) (by kernel_rfl) (by kernel_rfl) (fun _ _ _ h => h) (Or.inl ⟨by rfl, ?_⟩) hHeld ?_
        rotate_left
        · intro w hSw; clear hSw; go_simp; try with_reducible rfl
        try simp only [Act.put, List.setIfInBounds_toArray, List.set_cons_zero, List.set_cons_succ]
        refine wpAnyH_take (i := 1) (oi := { dst := some 42, op := Op.load 33 (Operand.tmp 7), type := 33, pos := "law.go:114", after := #[{ on := 2, ground := Ground.gcOnly Departure.lateStores }], guard := none }) (v := Value.agg cs) rfl (by kernel_rfl) (by kernel_rfl) (by kernel_rfl) (fun _ _ _ h => h) (Or.inl ⟨by rfl, fun V hV => ex_load_row (.tmp 7) rfl w1.heap.size rfl cs hV ZS.out⟩) hHeld ?_
        try simp only [Act.put, List.setIfInBounds_toArray, List.set_cons_zero, List.set_cons_succ]
        refine wpAnyH_take (i := 2) (oi := { dst := some 2, op := Op.assign (Operand.tmp 41), type := 23, pos := "law.go:114", after := #[{ on := 0, ground := Ground.data }, { on := 0, ground := Ground.phase }, { on := 1, ground := Ground.textOnly Departure.lateStores }], guard := none }) (v := ?_) rfl (by kernel_rfl) (by kernel_rfl) (by kernel_rfl) (fun _ _ _ h => h) (Or.inl ⟨by rfl, ?_⟩) hHeld ?_
        rotate_left
        · intro w hSw; clear hSw; go_simp; try with_reducible rfl
        try simp only [Act.put, List.setIfInBounds_toArray, List.set_cons_zero, List.set_cons_succ]
        refine wpAnyH_ready (rs := [3]) (by kernel_rfl) (by simp) ?_
        refine AllReadyH.cons (o := { dst := none, op := Op.store 33 (Operand.tmp 3) (Operand.tmp 42), type := 0, pos := "law.go:114", after := #[{ on := 1, ground := Ground.data }, { on := 2, ground := Ground.chain }, { on := 0, ground := Ground.phase }, { on := 1, ground := Ground.phase }, { on := 2, ground := Ground.phase }], guard := none }) rfl (fun K hK => ?_) AllReadyH.nil
        rw [if_pos (by rfl)]
        refine wp_store_row 33 (.tmp 3) (.tmp 42) rfl w.heap.size cs rfl rfl 33 zb HZ.out (by rw [ZS.out]; exact info33) (by rw [ZS.out]; exact zb_size) ZO.out ?_
        refine hK.out _ _ ?_ (fun hHeld => ?_)
        · exact (setRow_other _ _ _ _ (by have := N1.out; omega)).trans HY.out
        clear hK K
        try simp only [Act.put, List.setIfInBounds_toArray, List.set_cons_zero, List.set_cons_succ]
        refine wpAnyH_take (i := 4) (oi := { dst := some 4, op := Op.assign (Operand.const (Value.bool true)), type := 4, pos := "law.go:114", after := #[{ on := 3, ground := Ground.chain }, { on := 0, ground := Ground.phase }, { on := 1, ground := Ground.phase }, { on := 2, ground := Ground.phase }, { on := 3, ground := Ground.phase }], guard := none }) (v := ?_) rfl (by kernel_rfl) (by kernel_rfl) (by kernel_rfl) (fun _ _ _ h => h) (Or.inl ⟨by rfl, ?_⟩) hHeld ?_
        rotate_left
        · intro w hSw; clear hSw; go_simp; try with_reducible rfl
        try simp only [Act.put, List.setIfInBounds_toArray, List.set_cons_zero, List.set_cons_succ]
        refine wpAnyH_done (by kernel_rfl) ?_ _
        go_wp2_with fail
        have HF := (HST.out.later (drew_bel wr)).apart (grown_row (w := wr.drew) (N := w.heap.size) (cs := cs)) (.inr rfl)
        have HBF : Below w.heap.size w (wr.drew.setRow w.heap.size cs) := below_setRow (HBR.out.trans ((drew_bel wr).mono HBR.out.size)) (Nat.le_refl _) _
        refine bodyPost_ret (v := .tuple #[.pointer (some ⟨w.heap.size + 1, 0, none⟩), .agg cs, .bool true]) ?_ rfl ⟨cs, rfl, ?_, HBF⟩
        · exact res12 _ _ w.heap.size cs _ _ rfl rfl rfl (setRow_heap _ _ _ _ _ _ (show wr.drew.heap[w.heap.size]? = _ from HZ.out)) (by rw [ZS.out]; exact info33)
        · rw [← HE.out]; exact HF.less (fun g hg => hg.elim)
      · have hk1 : ¬ (k : Int) < (n : Int) := by omega
        go_wp2_with fail
        refine wp_region_held_drew (S := (fun V => V.heap[w1.heap.size]? = some (.cells cs 33 (0, 0)))) (by kernel_rfl) ?_ (fun hHeld => ?_)
        · exact HY.out
        refine wpAnyH_take (i := 0) (oi := { dst := some 41, op := Op.move (Operand.tmp 5), type := 23, pos := "law.go:114", after := #[], guard := none }) (v := ?_) rfl (by kernel_rfl) (by kernel_rfl) (by kernel_rfl) (fun _ _ _ h => h) (Or.inl ⟨by rfl, ?_⟩) hHeld ?_
        rotate_left
        · intro w hSw; clear hSw; go_simp; try with_reducible rfl
        try simp only [Act.put, List.setIfInBounds_toArray, List.set_cons_zero, List.set_cons_succ]
        refine wpAnyH_take (i := 1) (oi := { dst := some 42, op := Op.load 33 (Operand.tmp 7), type := 33, pos := "law.go:114", after := #[{ on := 2, ground := Ground.gcOnly Departure.lateStores }], guard := none }) (v := Value.agg cs) rfl (by kernel_rfl) (by kernel_rfl) (by kernel_rfl) (fun _ _ _ h => h) (Or.inl ⟨by rfl, fun V hV => ex_load_row (.tmp 7) rfl w1.heap.size rfl cs hV ZS.out⟩) hHeld ?_
        try simp only [Act.put, List.setIfInBounds_toArray, List.set_cons_zero, List.set_cons_succ]
        refine wpAnyH_take (i := 2) (oi := { dst := some 2, op := Op.assign (Operand.tmp 41), type := 23, pos := "law.go:114", after := #[{ on := 0, ground := Ground.data }, { on := 0, ground := Ground.phase }, { on := 1, ground := Ground.textOnly Departure.lateStores }], guard := none }) (v := ?_) rfl (by kernel_rfl) (by kernel_rfl) (by kernel_rfl) (fun _ _ _ h => h) (Or.inl ⟨by rfl, ?_⟩) hHeld ?_
        rotate_left
        · intro w hSw; clear hSw; go_simp; try with_reducible rfl
        try simp only [Act.put, List.setIfInBounds_toArray, List.set_cons_zero, List.set_cons_succ]
        refine wpAnyH_ready (rs := [3]) (by kernel_rfl) (by simp) ?_
        refine AllReadyH.cons (o := { dst := none, op := Op.store 33 (Operand.tmp 3) (Operand.tmp 42), type := 0, pos := "law.go:114", after := #[{ on := 1, ground := Ground.data }, { on := 2, ground := Ground.chain }, { on := 0, ground := Ground.phase }, { on := 1, ground := Ground.phase }, { on := 2, ground := Ground.phase }], guard := none }) rfl (fun K hK => ?_) AllReadyH.nil
        rw [if_pos (by rfl)]
        refine wp_store_row 33 (.tmp 3) (.tmp 42) rfl w.heap.size cs rfl rfl 33 zb HZ.out (by rw [ZS.out]; exact info33) (by rw [ZS.out]; exact zb_size) ZO.out ?_
        refine hK.out _ _ ?_ (fun hHeld => ?_)
        · exact (setRow_other _ _ _ _ (by have := N1.out; omega)).trans HY.out
        clear hK K
        try simp only [Act.put, List.setIfInBounds_toArray, List.set_cons_zero, List.set_cons_succ]
        refine wpAnyH_take (i := 4) (oi := { dst := some 4, op := Op.assign (Operand.const (Value.bool true)), type := 4, pos := "law.go:114", after := #[{ on := 3, ground := Ground.chain }, { on := 0, ground := Ground.phase }, { on := 1, ground := Ground.phase }, { on := 2, ground := Ground.phase }, { on := 3, ground := Ground.phase }], guard := none }) (v := ?_) rfl (by kernel_rfl) (by kernel_rfl) (by kernel_rfl) (fun _ _ _ h => h) (Or.inl ⟨by rfl, ?_⟩) hHeld ?_
        rotate_left
        · intro w hSw; clear hSw; go_simp; try with_reducible rfl
        try simp only [Act.put, List.setIfInBounds_toArray, List.set_cons_zero, List.set_cons_succ]
        refine wpAnyH_done (by kernel_rfl) ?_ _
        go_wp2_with fail
        have HF := (HST.out.later (drew_bel wr)).apart (grown_row (w := wr.drew) (N := w.heap.size) (cs := cs)) (.inr rfl)
        have HBF : Below w.heap.size w (wr.drew.setRow w.heap.size cs) := below_setRow (HBR.out.trans ((drew_bel wr).mono HBR.out.size)) (Nat.le_refl _) _
        refine bodyPost_ret (v := .tuple #[.pointer (some ⟨w.heap.size + 1, 0, none⟩), .agg cs, .bool true]) ?_ rfl ⟨cs, rfl, ?_, HBF⟩
        · exact res12 _ _ w.heap.size cs _ _ rfl rfl rfl (setRow_heap _ _ _ _ _ _ (show wr.drew.heap[w.heap.size]? = _ from HZ.out)) (by rw [ZS.out]; exact info33)
        · rw [← HE.out]; exact HF.less (fun g hg => hg.elim)
end Go.Proofs.Ytpihoegikojlaaa
