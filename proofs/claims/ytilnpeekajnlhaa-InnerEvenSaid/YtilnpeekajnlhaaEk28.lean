/- Nodes: Take. -/
import Derived.Test.YtilnpeekajnlhaaEk02
import Derived.Test.YtilnpeekajnlhaaEk26
import Derived.Test.YtilnpeekajnlhaaEk27
set_option linter.unusedVariables false
set_option linter.unusedSimpArgs false
namespace Go.Proofs.Ytilnpeekajnlhaa
open Go.RowKit Go.Maps
/-- What is taken, and the node without it. -/
def TakeP (w : World) (kd : Int) (n k : Nat) (ps : List ByteArray) (ks : List Int) (L R : List MG) (e : Ending) (w' : World) : Prop :=
  ∃ T tc P pc J kc M mc B bc, e = .returned (.tuple #[.slice T L.length tc, NV kd (.slice P n pc) (.slice J k kc) (.slice M R.length mc) (.slice B 0 bc)]) ∧ EG.Row w' w.heap.size T L tc ∧ R3 w' w.heap.size P J M pc kc mc ps ks R ∧ Below w.heap.size w w'
set_option maxRecDepth 100000 in
set_option maxHeartbeats 2000000 in
theorem itake_any (kd : Int) (P J M B : Option Addr) (n pc k kc m mc bc : Nat) (ps : List ByteArray) (ks : List Int) (ms : List MG) (f t : ByteArray) (i : Int) (w : World) (hl : ps.length = n) (hn : n ≤ 100) (hP : Pv.RdS w P ps) (hkl : ks.length = k) (hk : k = n + 1) (hJ : EI.Rd w J ks) (hm : ms.length = m) (hm1 : m ≤ 1000) (hM : EG.Rd w M ms) (ho : OkA ms) :
    Calls Try.prog 10 #[NV kd (.slice P n pc) (.slice J k kc) (.slice M m mc) (.slice B 0 bc), .agg #[.string f, .string t], .int .i64 i] w (TakeP w kd n k ps ks (kidL ps f t i ms) (restL ps f t i ms)) := by
  have PA := Lib.hid (fun W (h : Below w.heap.size w W) => part_all kd P J M B n pc k kc m mc 0 bc ps f t i W hl hn (Rd.later hP h) hk)
  have OA := Lib.hid (fun W (h : Below w.heap.size w W) => own_any kd P J M B n pc k kc m mc bc ps ks ms W hl hkl hm (by omega) (by omega) hm1 (es_rd.2 (Rd.later hP h)) (hJ.later h) (hM.later h))
  have TA := Lib.hid (fun x y A c W (h : EG.Rd W A ms) => take_row x y A m c ms W hm hm1 h ho)
  have HM := Lib.hid hm
  clear hl hP hkl hJ hm hM ho hk
  have y1 := two_new w (NO kd (.slice P n pc) (.slice J k kc) (.slice M m mc) (.slice B 0 bc)) (rgc f t)
  have b1 := bel_alloc (alb w (NO kd (.slice P n pc) (.slice J k kc) (.slice M m mc) (.slice B 0 bc))) (rgc f t)
  have b2 := alb ((w.alloc (NO kd (.slice P n pc) (.slice J k kc) (.slice M m mc) (.slice B 0 bc))).alloc (rgc f t)) ZN
  have y0 := heap_alloc_new ((w.alloc (NO kd (.slice P n pc) (.slice J k kc) (.slice M m mc) (.slice B 0 bc))).alloc (rgc f t)) ZN
  simp only [World.size_alloc] at y0
  have H0 := Lib.hid (bel_trans b1 b2)
  have Z := Lib.hid (keep_bel b2 y1.1)
  have Y := Lib.hid (keep_bel b2 y1.2)
  have X := Lib.hid y0
  clear y1 b1 b2 y0
  obtain ⟨c0, c1, c2, c3, c4⟩ := cells5 Z.out
  obtain ⟨d0, d1, -, -⟩ := has_two Y.out
  unfold kidL restL
  unfold Pv.SpanPost Pv.spv at PA
  obtain ⟨x, hx⟩ : ∃ x, x = (Pv.spanF ps f t i).1 := ⟨_, rfl⟩
  obtain ⟨y, hy⟩ : ∃ y, y = (Pv.spanF ps f t i).2 := ⟨_, rfl⟩
  rw [← hx, ← hy] at PA ⊢
  cases hok : Pv.spanB ps f t i
  · rw [hok] at PA
    clear hx hy hok
    go_enter Try.func10, Try.ntmps10
    go_upto_region 3 with (first
      | (go_at_call 37; ((with_reducible refine (PA.out _ H0.out).mono ?_); rintro e w1 ⟨rfl, b⟩; have b' := bel_trans b (alb w1 (rgc x y)); have HS1 := Lib.hid b'.size; have HN1 := Lib.hid (show w.heap.size + 3 ≤ w1.heap.size by have := b.size; simp only [World.size_alloc] at this; omega); replace H0 := Lib.hid (bel_trans H0.out b'); replace Z := Lib.hid (keep_bel b' Z.out); replace X := Lib.hid (keep_bel b' X.out); replace Y := Lib.hid (heap_alloc_new w1 (rgc x y)); clear b b' c0 c1 c2 c3 c4 d0 d1; obtain ⟨c0, c1, c2, c3, c4⟩ := cells5 Z.out))
      | (go_at_call 30; ((with_reducible refine (OA.out _ H0.out).mono ?_); rintro e w2 ⟨P2, p2, J2, j2, M2, m2, B2, b2, rfl, rr, b⟩; have RR := Lib.hid (rr.base (b2 := w.heap.size + 3) (by have h1 := HN1.out; simp only [World.size_alloc]; omega)); replace H0 := Lib.hid (bel_trans H0.out b); replace Z := Lib.hid (keep_bel b Z.out); replace X := Lib.hid (keep_bel b X.out); replace Y := Lib.hid (keep_bel b Y.out); clear b rr c0 c1 c2 c3 c4; obtain ⟨c0, c1, c2, c3, c4⟩ := cells5 Z.out; obtain ⟨f0, f1, f2, f3, f4⟩ := froz5 Z.out))
      | fail)
    generalize hW4 : World.setCell _ _ _ = W4
    have HC4 := Lib.hid (show Chg (fun g => g = w.heap.size) w2 W4 by rw [← hW4]; exact chg5 _ _ _ _ _ _ _)
    have Z4 := Lib.hid (show W4.heap[w.heap.size]? = some (NO kd (.slice P2 n p2) (.slice J2 k j2) (.slice M2 m m2) (.slice B2 0 b2)) from (by rw [← hW4]; exact set5w Z.out _ _ _ _ _))
    have X4 := Lib.hid (show W4.heap[w.heap.size + 1 + 1]? = some ZN from keep_chg HC4.out X.out (fun e => by omega))
    have Y4 := Lib.hid (keep_chg HC4.out Y.out (fun e => by have := HN1.out; omega))
    have RR4 := Lib.hid (RR.out.chgB HC4.out (by omega))
    have H4 := Lib.hid (bel_chg H0.out HC4.out (Nat.le_refl _))
    have HS4 := Lib.hid (show w.heap.size + 3 ≤ W4.heap.size by have := (Array.getElem?_eq_some_iff.1 Y4.out).1; have := HN1.out; omega)
    clear hW4 c0 c1 c2 c3 c4 f0 f1 f2 f3 f4 Z X Y RR
    obtain ⟨c0, c1, c2, c3, c4⟩ := cells5 Z4.out
    obtain ⟨d0, d1, -, -⟩ := has_two Y4.out
    go_wp2_with fail
    have Z5 := Z4
    have X5 := X4
    have RR5 := RR4
    have H5 := H4
    clear c0 c1 c2 c3 c4 d0 d1
    obtain ⟨k0, k1, k2, k3, k4⟩ := cells5 X5.out
    obtain ⟨f0, f1, f2, f3, f4⟩ := froz5 X5.out
    refine wp_region_held_drew (S := (fun V : World => V.heap[w.heap.size]? = some (NO kd (.slice P2 n p2) (.slice J2 k j2) (.slice M2 m m2) (.slice B2 0 b2)))) (by kernel_rfl) ?_ (fun hHeld => ?_)
    · exact Z5.out
    have HHeld := Lib.hid hHeld; clear hHeld
    refine wT (i := 0) (oi := { dst := some 22, op := Op.load 28 (Operand.tmp 3), type := 28, pos := "inner.go:106", after := #[{ on := 1, ground := Ground.gcOnly Departure.lateStores }], guard := none }) (v := (NV kd (.slice P2 n p2) (.slice J2 k j2) (.slice M2 m m2) (.slice B2 0 b2) : Value)) rfl (Or.inl ⟨by rfl, ?_⟩) HHeld.out ?_
    · intro V hV; have hc0 := (cells5 hV).1; have hc1 := (cells5 hV).2.1; have hc2 := (cells5 hV).2.2.1; have hc3 := (cells5 hV).2.2.2.1; have hc4 := (cells5 hV).2.2.2.2; clear hV; go_simp
    try simp only [pu, pn, s1, s2, s3]
    refine wT (i := 1) (oi := { dst := some 6, op := Op.assign (Operand.const (Value.slice none 0 0)), type := 25, pos := "inner.go:106", after := #[{ on := 0, ground := Ground.textOnly Departure.lateStores }], guard := none }) (v := ?_) rfl (Or.inl ⟨by rfl, ?_⟩) HHeld.out ?_
    rotate_left
    · intro w hSw; clear hSw; go_simp; try with_reducible rfl
    try simp only [pu, pn, s1, s2, s3]
    refine wpAnyH_ready (rs := [2]) (by kernel_rfl) (by simp) ?_
    refine AllReadyH.cons (o := { dst := none, op := Op.store 28 (Operand.tmp 7) (Operand.tmp 22), type := 0, pos := "inner.go:106", after := #[{ on := 0, ground := Ground.data }, { on := 1, ground := Ground.chain }, { on := 0, ground := Ground.phase }, { on := 1, ground := Ground.phase }], guard := none }) rfl (fun K hK => ?_) AllReadyH.nil
    go_simp
    generalize hW : World.setCell _ _ _ = W6
    have HC6 := Lib.hid (show Chg (fun g => g = w.heap.size + 1 + 1) W4 W6 by rw [← hW]; exact chg5 _ _ _ _ _ _ _)
    have Y6 := Lib.hid (show W6.heap[w.heap.size + 1 + 1]? = some (NO kd (.slice P2 n p2) (.slice J2 k j2) (.slice M2 m m2) (.slice B2 0 b2)) from (by rw [← hW]; exact set5w X5.out _ _ _ _ _))
    clear hW
    refine hK.out _ _ ?_ (fun hHeld => ?_)
    · exact (show W6.heap[w.heap.size]? = some (NO kd (.slice P2 n p2) (.slice J2 k j2) (.slice M2 m m2) (.slice B2 0 b2)) from keep_chg HC6.out Z5.out (fun e => by omega))
    clear HHeld; have HHeld := Lib.hid hHeld; clear hHeld
    clear hK K
    try simp only [pu, pn, s1, s2, s3]
    refine wpAnyH_done (by kernel_rfl) ?_ _
    clear HHeld
    go_wp2
    obtain ⟨k0, k1, k2, k3, k4⟩ := cells5 Y6.out
    refine bodyPost_ret (v := .tuple #[.slice none 0 0, NV kd (.slice P2 n p2) (.slice J2 k j2) (.slice M2 m m2) (.slice B2 0 b2)]) (by simp [results, Try.results10, go_sem, k0, k1, k2, k3, k4]) rfl ⟨none, 0, P2, p2, J2, j2, M2, m2, B2, b2, by rw [← HM.out]; rfl, RE.Row.nil, ((RR5.out.chgB HC6.out (by omega)).base (by omega)).later (drew_bel W6), (bel_chg H5.out HC6.out (by omega)).drew⟩

  · rw [hok] at PA
    clear hx hy hok
    go_enter Try.func10, Try.ntmps10
    go_upto_region 3 with (first
      | (go_at_call 37; ((with_reducible refine (PA.out _ H0.out).mono ?_); rintro e w1 ⟨rfl, b⟩; have b' := bel_trans b (alb w1 (rgc x y)); have HS1 := Lib.hid b'.size; have HN1 := Lib.hid (show w.heap.size + 3 ≤ w1.heap.size by have := b.size; simp only [World.size_alloc] at this; omega); replace H0 := Lib.hid (bel_trans H0.out b'); replace Z := Lib.hid (keep_bel b' Z.out); replace X := Lib.hid (keep_bel b' X.out); replace Y := Lib.hid (heap_alloc_new w1 (rgc x y)); clear b b' c0 c1 c2 c3 c4 d0 d1; obtain ⟨c0, c1, c2, c3, c4⟩ := cells5 Z.out))
      | (go_at_call 30; ((with_reducible refine (OA.out _ H0.out).mono ?_); rintro e w2 ⟨P2, p2, J2, j2, M2, m2, B2, b2, rfl, rr, b⟩; have RR := Lib.hid (rr.base (b2 := w.heap.size + 3) (by have h1 := HN1.out; simp only [World.size_alloc]; omega)); replace H0 := Lib.hid (bel_trans H0.out b); replace Z := Lib.hid (keep_bel b Z.out); replace X := Lib.hid (keep_bel b X.out); replace Y := Lib.hid (keep_bel b Y.out); clear b rr c0 c1 c2 c3 c4; obtain ⟨c0, c1, c2, c3, c4⟩ := cells5 Z.out; obtain ⟨f0, f1, f2, f3, f4⟩ := froz5 Z.out))
      | fail)
    generalize hW4 : World.setCell _ _ _ = W4
    have HC4 := Lib.hid (show Chg (fun g => g = w.heap.size) w2 W4 by rw [← hW4]; exact chg5 _ _ _ _ _ _ _)
    have Z4 := Lib.hid (show W4.heap[w.heap.size]? = some (NO kd (.slice P2 n p2) (.slice J2 k j2) (.slice M2 m m2) (.slice B2 0 b2)) from (by rw [← hW4]; exact set5w Z.out _ _ _ _ _))
    have X4 := Lib.hid (show W4.heap[w.heap.size + 1 + 1]? = some ZN from keep_chg HC4.out X.out (fun e => by omega))
    have Y4 := Lib.hid (keep_chg HC4.out Y.out (fun e => by have := HN1.out; omega))
    have RR4 := Lib.hid (RR.out.chgB HC4.out (by omega))
    have H4 := Lib.hid (bel_chg H0.out HC4.out (Nat.le_refl _))
    have HS4 := Lib.hid (show w.heap.size + 3 ≤ W4.heap.size by have := (Array.getElem?_eq_some_iff.1 Y4.out).1; have := HN1.out; omega)
    clear hW4 c0 c1 c2 c3 c4 f0 f1 f2 f3 f4 Z X Y RR
    obtain ⟨c0, c1, c2, c3, c4⟩ := cells5 Z4.out
    obtain ⟨d0, d1, -, -⟩ := has_two Y4.out
    go_upto_region 7 with (first
      | (go_at_call 38; ((with_reducible refine (TA.out x y M2 m2 _ RR4.out.r3.rd).mono ?_); rintro e w3 ⟨⟨T3, t3, M3, m3, rfl, rt, rm⟩, b⟩; have RT := Lib.hid (rt.base HS4.out); have RM := Lib.hid (rm.base HS4.out); have RR5 := Lib.hid (R3.mk (RR4.out.r1.later b) (RR4.out.r2.later b) RM.out); replace H4 := Lib.hid (bel_trans H4.out b); replace Z4 := Lib.hid (keep_bel b Z4.out); replace X4 := Lib.hid (keep_bel b X4.out); clear b rt rm c0 c1 c2 c3 c4 d0 d1; obtain ⟨c0, c1, c2, c3, c4⟩ := cells5 Z4.out; obtain ⟨f0, f1, f2, f3, f4⟩ := froz5 Z4.out))
      | fail)
    generalize hW5 : World.setCell _ _ _ = W5
    have HC5 := Lib.hid (show Chg (fun g => g = w.heap.size) w3 W5 by rw [← hW5]; exact Chg.set _ _ rfl)
    have Z5 := Lib.hid (show W5.heap[w.heap.size]? = some (NO kd (.slice P2 n p2) (.slice J2 k j2) (.slice M3 (resL x y ms).length m3) (.slice B2 0 b2)) from (by rw [← hW5]; exact set5_3 Z4.out _))
    have X5 := Lib.hid (show W5.heap[w.heap.size + 1 + 1]? = some ZN from keep_chg HC5.out X4.out (fun e => by omega))
    have RR6 := Lib.hid (RR5.out.chgB HC5.out (by omega))
    have RT5 := Lib.hid (RT.out.chgB HC5.out (by omega))
    have H5 := Lib.hid (bel_chg H4.out HC5.out (Nat.le_refl _))
    clear hW5 c0 c1 c2 c3 c4 f0 f1 f2 f3 f4 Z4 X4 RR5 RT
    have RR5 := RR6
    obtain ⟨k0, k1, k2, k3, k4⟩ := cells5 X5.out
    obtain ⟨f0, f1, f2, f3, f4⟩ := froz5 X5.out
    refine wp_region_held_drew (S := (fun V : World => V.heap[w.heap.size]? = some (NO kd (.slice P2 n p2) (.slice J2 k j2) (.slice M3 (resL x y ms).length m3) (.slice B2 0 b2)))) (by kernel_rfl) ?_ (fun hHeld => ?_)
    · exact Z5.out
    have HHeld := Lib.hid hHeld; clear hHeld
    refine wT (i := 0) (oi := { dst := some 31, op := Op.move (Operand.tmp 10), type := 25, pos := "inner.go:110", after := #[], guard := none }) (v := ?_) rfl (Or.inl ⟨by rfl, ?_⟩) HHeld.out ?_
    rotate_left
    · intro w hSw; clear hSw; go_simp; try with_reducible rfl
    try simp only [pu, pn, s1, s2, s3]
    refine wT (i := 1) (oi := { dst := some 32, op := Op.load 28 (Operand.tmp 3), type := 28, pos := "inner.go:110", after := #[{ on := 2, ground := Ground.gcOnly Departure.lateStores }], guard := none }) (v := (NV kd (.slice P2 n p2) (.slice J2 k j2) (.slice M3 (resL x y ms).length m3) (.slice B2 0 b2) : Value)) rfl (Or.inl ⟨by rfl, ?_⟩) HHeld.out ?_
    · intro V hV; have hc0 := (cells5 hV).1; have hc1 := (cells5 hV).2.1; have hc2 := (cells5 hV).2.2.1; have hc3 := (cells5 hV).2.2.2.1; have hc4 := (cells5 hV).2.2.2.2; clear hV; go_simp
    try simp only [pu, pn, s1, s2, s3]
    refine wT (i := 2) (oi := { dst := some 6, op := Op.assign (Operand.tmp 31), type := 25, pos := "inner.go:110", after := #[{ on := 0, ground := Ground.data }, { on := 0, ground := Ground.phase }, { on := 1, ground := Ground.textOnly Departure.lateStores }], guard := none }) (v := ?_) rfl (Or.inl ⟨by rfl, ?_⟩) HHeld.out ?_
    rotate_left
    · intro w hSw; clear hSw; go_simp; try with_reducible rfl
    try simp only [pu, pn, s1, s2, s3]
    refine wpAnyH_ready (rs := [3]) (by kernel_rfl) (by simp) ?_
    refine AllReadyH.cons (o := { dst := none, op := Op.store 28 (Operand.tmp 7) (Operand.tmp 32), type := 0, pos := "inner.go:110", after := #[{ on := 1, ground := Ground.data }, { on := 2, ground := Ground.chain }, { on := 0, ground := Ground.phase }, { on := 1, ground := Ground.phase }, { on := 2, ground := Ground.phase }], guard := none }) rfl (fun K hK => ?_) AllReadyH.nil
    go_simp
    generalize hW : World.setCell _ _ _ = W6
    have HC6 := Lib.hid (show Chg (fun g => g = w.heap.size + 1 + 1) W5 W6 by rw [← hW]; exact chg5 _ _ _ _ _ _ _)
    have Y6 := Lib.hid (show W6.heap[w.heap.size + 1 + 1]? = some (NO kd (.slice P2 n p2) (.slice J2 k j2) (.slice M3 (resL x y ms).length m3) (.slice B2 0 b2)) from (by rw [← hW]; exact set5w X5.out _ _ _ _ _))
    clear hW
    refine hK.out _ _ ?_ (fun hHeld => ?_)
    · exact (show W6.heap[w.heap.size]? = some (NO kd (.slice P2 n p2) (.slice J2 k j2) (.slice M3 (resL x y ms).length m3) (.slice B2 0 b2)) from keep_chg HC6.out Z5.out (fun e => by omega))
    clear HHeld; have HHeld := Lib.hid hHeld; clear hHeld
    clear hK K
    try simp only [pu, pn, s1, s2, s3]
    refine wpAnyH_done (by kernel_rfl) ?_ _
    clear HHeld
    go_wp2
    obtain ⟨k0, k1, k2, k3, k4⟩ := cells5 Y6.out
    refine bodyPost_ret (v := .tuple #[.slice T3 (forL x y ms).length t3, NV kd (.slice P2 n p2) (.slice J2 k j2) (.slice M3 (resL x y ms).length m3) (.slice B2 0 b2)]) (by simp [results, Try.results10, go_sem, k0, k1, k2, k3, k4]) rfl ⟨T3, t3, P2, p2, J2, j2, M3, m3, B2, b2, rfl, ((RT5.out.chgB HC6.out (by omega)).base (by omega)).later (drew_bel W6), ((RR5.out.chgB HC6.out (by omega)).base (by omega)).later (drew_bel W6), (bel_chg H5.out HC6.out (by omega)).drew⟩

end Go.Proofs.Ytilnpeekajnlhaa
