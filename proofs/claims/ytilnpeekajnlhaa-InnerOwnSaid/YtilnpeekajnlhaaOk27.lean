/- Texts of the proof, one behind the other. -/
import Derived.Test.YtilnpeekajnlhaaOk25
import Derived.Test.YtilnpeekajnlhaaOk26
import Derived.Maps.OwnSet
import Derived.Maps.RangeWalk
import Derived.Test.YtilnpeekajnlhaaOk07
set_option linter.unusedVariables false
set_option linter.unusedSimpArgs false
namespace Go.Proofs.Ytilnpeekajnlhaa
open Go.RowKit Go.Maps
/-- What is taken, and the node without it. -/
def TakeP (w : World) (kd : Int) (n k : Nat) (ps : List ByteArray) (ks : List Int) (L R : List MG) (e : Ending) (w' : World) : Prop :=
  ∃ T tc P pc J kc M mc B bc, e = .returned (.tuple #[.slice T L.length tc, NV kd (.slice P n pc) (.slice J k kc) (.slice M R.length mc) (.slice B 0 bc)]) ∧ EG.Row w' w.heap.size T L tc ∧ R3 w' w.heap.size P J M pc kc mc ps ks R ∧ Below w.heap.size w w'
set_option maxRecDepth 100000 in
set_option maxHeartbeats 2000000 in
theorem itake_any (kd : Int) (P J M B : Option Addr) (n pc k kc m mc bc : Nat) (ps : List ByteArray) (ks : List Int) (ms : List MG) (f t : ByteArray) (i : Int) (w : World) (hl : ps.length = n) (hn : n ≤ 100) (hP : Pv.RdS w P ps) (hkl : ks.length = k) (hk : k = n + 1) (hJ : EI.Rd w J ks) (hm : ms.length = m) (hm1 : m ≤ 1000) (hM : EG.Rd w M ms) (ho : OkA ms) :
    Calls Try.prog 10 #[NV kd (.slice P n pc) (.slice J k kc) (.slice M m mc) (.slice B 0 bc), .agg #[.string f, .string t], .int .i64 i] w (TakeP w kd n k ps ks (kidL ps f t i ms) (restL ps f t i ms)) := by
  have PA := Lib.hid (fun W (h : Below w.heap.size w W) => part_all kd P J M B n pc k kc m mc 0 bc ps f t i W hl hn (Rd.later hP h) hk)
  have OA := Lib.hid (fun W (h : Below w.heap.size w W) => own_any kd P J M B n pc k kc m mc bc ps ks ms W hl hkl hm (by omega) (by omega) hm1 (es_rd.2 (Rd.later hP h)) (hJ.later h) (hM.later h))
  have TA := Lib.hid (fun x y A c W (h : EG.Rd W A ms) => take_row x y A m c ms W hm hm1 h ho)
  have HM := Lib.hid hm
  clear hl hP hkl hJ hm hM ho hk
  have y1 := two_new w (NO kd (.slice P n pc) (.slice J k kc) (.slice M m mc) (.slice B 0 bc)) (rgc f t)
  have b1 := bel_alloc (alb w (NO kd (.slice P n pc) (.slice J k kc) (.slice M m mc) (.slice B 0 bc))) (rgc f t)
  have b2 := alb ((w.alloc (NO kd (.slice P n pc) (.slice J k kc) (.slice M m mc) (.slice B 0 bc))).alloc (rgc f t)) ZN
  have y0 := heap_alloc_new ((w.alloc (NO kd (.slice P n pc) (.slice J k kc) (.slice M m mc) (.slice B 0 bc))).alloc (rgc f t)) ZN
  simp only [World.size_alloc] at y0
  have H0 := Lib.hid (bel_trans b1 b2)
  have Z := Lib.hid (keep_bel b2 y1.1)
  have Y := Lib.hid (keep_bel b2 y1.2)
  have X := Lib.hid y0
  clear y1 b1 b2 y0
  obtain ⟨c0, c1, c2, c3, c4⟩ := cells5 Z.out
  obtain ⟨d0, d1, -, -⟩ := has_two Y.out
  unfold kidL restL
  unfold Pv.SpanPost Pv.spv at PA
  obtain ⟨x, hx⟩ : ∃ x, x = (Pv.spanF ps f t i).1 := ⟨_, rfl⟩
  obtain ⟨y, hy⟩ : ∃ y, y = (Pv.spanF ps f t i).2 := ⟨_, rfl⟩
  rw [← hx, ← hy] at PA ⊢
  cases hok : Pv.spanB ps f t i
  · rw [hok] at PA
    clear hx hy hok
    go_enter Try.func10, Try.ntmps10
    go_upto_region 3 with (first
      | (go_at_call 37; ((with_reducible refine (PA.out _ H0.out).mono ?_); rintro e w1 ⟨rfl, b⟩; have b' := bel_trans b (alb w1 (rgc x y)); have HS1 := Lib.hid b'.size; have HN1 := Lib.hid (show w.heap.size + 3 ≤ w1.heap.size by have := b.size; simp only [World.size_alloc] at this; omega); replace H0 := Lib.hid (bel_trans H0.out b'); replace Z := Lib.hid (keep_bel b' Z.out); replace X := Lib.hid (keep_bel b' X.out); replace Y := Lib.hid (heap_alloc_new w1 (rgc x y)); clear b b' c0 c1 c2 c3 c4 d0 d1; obtain ⟨c0, c1, c2, c3, c4⟩ := cells5 Z.out))
      | (go_at_call 30; ((with_reducible refine (OA.out _ H0.out).mono ?_); rintro e w2 ⟨P2, p2, J2, j2, M2, m2, B2, b2, rfl, rr, b⟩; have RR := Lib.hid (rr.base (b2 := w.heap.size + 3) (by have h1 := HN1.out; simp only [World.size_alloc]; omega)); replace H0 := Lib.hid (bel_trans H0.out b); replace Z := Lib.hid (keep_bel b Z.out); replace X := Lib.hid (keep_bel b X.out); replace Y := Lib.hid (keep_bel b Y.out); clear b rr c0 c1 c2 c3 c4; obtain ⟨c0, c1, c2, c3, c4⟩ := cells5 Z.out; obtain ⟨f0, f1, f2, f3, f4⟩ := froz5 Z.out))
      | fail)
    generalize hW4 : World.setCell _ _ _ = W4
    have HC4 := Lib.hid (show Chg (fun g => g = w.heap.size) w2 W4 by rw [← hW4]; exact chg5 _ _ _ _ _ _ _)
    have Z4 := Lib.hid (show W4.heap[w.heap.size]? = some (NO kd (.slice P2 n p2) (.slice J2 k j2) (.slice M2 m m2) (.slice B2 0 b2)) from (by rw [← hW4]; exact set5w Z.out _ _ _ _ _))
    have X4 := Lib.hid (show W4.heap[w.heap.size + 1 + 1]? = some ZN from keep_chg HC4.out X.out (fun e => by omega))
    have Y4 := Lib.hid (keep_chg HC4.out Y.out (fun e => by have := HN1.out; omega))
    have RR4 := Lib.hid (RR.out.chgB HC4.out (by omega))
    have H4 := Lib.hid (bel_chg H0.out HC4.out (Nat.le_refl _))
    have HS4 := Lib.hid (show w.heap.size + 3 ≤ W4.heap.size by have := (Array.getElem?_eq_some_iff.1 Y4.out).1; have := HN1.out; omega)
    clear hW4 c0 c1 c2 c3 c4 f0 f1 f2 f3 f4 Z X Y RR
    obtain ⟨c0, c1, c2, c3, c4⟩ := cells5 Z4.out
    obtain ⟨d0, d1, -, -⟩ := has_two Y4.out
    go_wp2_with fail
    have Z5 := Z4
    have X5 := X4
    have RR5 := RR4
    have H5 := H4
    clear c0 c1 c2 c3 c4 d0 d1
    obtain ⟨k0, k1, k2, k3, k4⟩ := cells5 X5.out
    obtain ⟨f0, f1, f2, f3, f4⟩ := froz5 X5.out
    refine wp_region_held_drew (S := (fun V : World => V.heap[w.heap.size]? = some (NO kd (.slice P2 n p2) (.slice J2 k j2) (.slice M2 m m2) (.slice B2 0 b2)))) (by kernel_rfl) ?_ (fun hHeld => ?_)
    · exact Z5.out
    have HHeld := Lib.hid hHeld; clear hHeld
    refine wpAnyH_take (i := 0) (oi := { dst := some 22, op := Op.load 28 (Operand.tmp 3), type := 28, pos := "inner.go:106", after := #[{ on := 1, ground := Ground.gcOnly Departure.lateStores }], guard := none }) (v := (NV kd (.slice P2 n p2) (.slice J2 k j2) (.slice M2 m m2) (.slice B2 0 b2) : Value)) rfl (by kernel_rfl) (by kernel_rfl) (by kernel_rfl) (fun _ _ _ h => h) (Or.inl ⟨by rfl, ?_⟩) HHeld.out ?_
    · intro V hV; have hc0 := (cells5 hV).1; have hc1 := (cells5 hV).2.1; have hc2 := (cells5 hV).2.2.1; have hc3 := (cells5 hV).2.2.2.1; have hc4 := (cells5 hV).2.2.2.2; clear hV; go_simp
    try simp only [Act.put, List.setIfInBounds_toArray, List.set_cons_zero, List.set_cons_succ]
    refine wpAnyH_take (i := 1) (oi := { dst := some 6, op := Op.assign (Operand.const (Value.slice none 0 0)), type := 25, pos := "inner.go:106", after := #[{ on := 0, ground := Ground.textOnly Departure.lateStores }], guard := none }) (v := ?_) rfl (by kernel_rfl) (by kernel_rfl) (by kernel_rfl) (fun _ _ _ h => h) (Or.inl ⟨by rfl, ?_⟩) HHeld.out ?_
    rotate_left
    · intro w hSw; clear hSw; go_simp; try with_reducible rfl
    try simp only [Act.put, List.setIfInBounds_toArray, List.set_cons_zero, List.set_cons_succ]
    refine wpAnyH_ready (rs := [2]) (by kernel_rfl) (by simp) ?_
    refine AllReadyH.cons (o := { dst := none, op := Op.store 28 (Operand.tmp 7) (Operand.tmp 22), type := 0, pos := "inner.go:106", after := #[{ on := 0, ground := Ground.data }, { on := 1, ground := Ground.chain }, { on := 0, ground := Ground.phase }, { on := 1, ground := Ground.phase }], guard := none }) rfl (fun K hK => ?_) AllReadyH.nil
    go_simp
    generalize hW : World.setCell _ _ _ = W6
    have HC6 := Lib.hid (show Chg (fun g => g = w.heap.size + 1 + 1) W4 W6 by rw [← hW]; exact chg5 _ _ _ _ _ _ _)
    have Y6 := Lib.hid (show W6.heap[w.heap.size + 1 + 1]? = some (NO kd (.slice P2 n p2) (.slice J2 k j2) (.slice M2 m m2) (.slice B2 0 b2)) from (by rw [← hW]; exact set5w X5.out _ _ _ _ _))
    clear hW
    refine hK.out _ _ ?_ (fun hHeld => ?_)
    · exact (show W6.heap[w.heap.size]? = some (NO kd (.slice P2 n p2) (.slice J2 k j2) (.slice M2 m m2) (.slice B2 0 b2)) from keep_chg HC6.out Z5.out (fun e => by omega))
    clear HHeld; have HHeld := Lib.hid hHeld; clear hHeld
    clear hK K
    try simp only [Act.put, List.setIfInBounds_toArray, List.set_cons_zero, List.set_cons_succ]
    refine wpAnyH_done (by kernel_rfl) ?_ _
    clear HHeld
    go_wp2
    obtain ⟨k0, k1, k2, k3, k4⟩ := cells5 Y6.out
    refine bodyPost_ret (v := .tuple #[.slice none 0 0, NV kd (.slice P2 n p2) (.slice J2 k j2) (.slice M2 m m2) (.slice B2 0 b2)]) (by simp [results, Try.results10, go_sem, k0, k1, k2, k3, k4]) rfl ⟨none, 0, P2, p2, J2, j2, M2, m2, B2, b2, by rw [← HM.out]; rfl, RE.Row.nil, ((RR5.out.chgB HC6.out (by omega)).base (by omega)).later (drew_bel W6), (bel_chg H5.out HC6.out (by omega)).drew⟩

  · rw [hok] at PA
    clear hx hy hok
    go_enter Try.func10, Try.ntmps10
    go_upto_region 3 with (first
      | (go_at_call 37; ((with_reducible refine (PA.out _ H0.out).mono ?_); rintro e w1 ⟨rfl, b⟩; have b' := bel_trans b (alb w1 (rgc x y)); have HS1 := Lib.hid b'.size; have HN1 := Lib.hid (show w.heap.size + 3 ≤ w1.heap.size by have := b.size; simp only [World.size_alloc] at this; omega); replace H0 := Lib.hid (bel_trans H0.out b'); replace Z := Lib.hid (keep_bel b' Z.out); replace X := Lib.hid (keep_bel b' X.out); replace Y := Lib.hid (heap_alloc_new w1 (rgc x y)); clear b b' c0 c1 c2 c3 c4 d0 d1; obtain ⟨c0, c1, c2, c3, c4⟩ := cells5 Z.out))
      | (go_at_call 30; ((with_reducible refine (OA.out _ H0.out).mono ?_); rintro e w2 ⟨P2, p2, J2, j2, M2, m2, B2, b2, rfl, rr, b⟩; have RR := Lib.hid (rr.base (b2 := w.heap.size + 3) (by have h1 := HN1.out; simp only [World.size_alloc]; omega)); replace H0 := Lib.hid (bel_trans H0.out b); replace Z := Lib.hid (keep_bel b Z.out); replace X := Lib.hid (keep_bel b X.out); replace Y := Lib.hid (keep_bel b Y.out); clear b rr c0 c1 c2 c3 c4; obtain ⟨c0, c1, c2, c3, c4⟩ := cells5 Z.out; obtain ⟨f0, f1, f2, f3, f4⟩ := froz5 Z.out))
      | fail)
    generalize hW4 : World.setCell _ _ _ = W4
    have HC4 := Lib.hid (show Chg (fun g => g = w.heap.size) w2 W4 by rw [← hW4]; exact chg5 _ _ _ _ _ _ _)
    have Z4 := Lib.hid (show W4.heap[w.heap.size]? = some (NO kd (.slice P2 n p2) (.slice J2 k j2) (.slice M2 m m2) (.slice B2 0 b2)) from (by rw [← hW4]; exact set5w Z.out _ _ _ _ _))
    have X4 := Lib.hid (show W4.heap[w.heap.size + 1 + 1]? = some ZN from keep_chg HC4.out X.out (fun e => by omega))
    have Y4 := Lib.hid (keep_chg HC4.out Y.out (fun e => by have := HN1.out; omega))
    have RR4 := Lib.hid (RR.out.chgB HC4.out (by omega))
    have H4 := Lib.hid (bel_chg H0.out HC4.out (Nat.le_refl _))
    have HS4 := Lib.hid (show w.heap.size + 3 ≤ W4.heap.size by have := (Array.getElem?_eq_some_iff.1 Y4.out).1; have := HN1.out; omega)
    clear hW4 c0 c1 c2 c3 c4 f0 f1 f2 f3 f4 Z X Y RR
    obtain ⟨c0, c1, c2, c3, c4⟩ := cells5 Z4.out
    obtain ⟨d0, d1, -, -⟩ := has_two Y4.out
    go_upto_region 7 with (first
      | (go_at_call 38; ((with_reducible refine (TA.out x y M2 m2 _ RR4.out.r3.rd).mono ?_); rintro e w3 ⟨⟨T3, t3, M3, m3, rfl, rt, rm⟩, b⟩; have RT := Lib.hid (rt.base HS4.out); have RM := Lib.hid (rm.base HS4.out); have RR5 := Lib.hid (R3.mk (RR4.out.r1.later b) (RR4.out.r2.later b) RM.out); replace H4 := Lib.hid (bel_trans H4.out b); replace Z4 := Lib.hid (keep_bel b Z4.out); replace X4 := Lib.hid (keep_bel b X4.out); clear b rt rm c0 c1 c2 c3 c4 d0 d1; obtain ⟨c0, c1, c2, c3, c4⟩ := cells5 Z4.out; obtain ⟨f0, f1, f2, f3, f4⟩ := froz5 Z4.out))
      | fail)
    generalize hW5 : World.setCell _ _ _ = W5
    have HC5 := Lib.hid (show Chg (fun g => g = w.heap.size) w3 W5 by rw [← hW5]; exact Chg.set _ _ rfl)
    have Z5 := Lib.hid (show W5.heap[w.heap.size]? = some (NO kd (.slice P2 n p2) (.slice J2 k j2) (.slice M3 (resL x y ms).length m3) (.slice B2 0 b2)) from (by rw [← hW5]; exact set5_3 Z4.out _))
    have X5 := Lib.hid (show W5.heap[w.heap.size + 1 + 1]? = some ZN from keep_chg HC5.out X4.out (fun e => by omega))
    have RR6 := Lib.hid (RR5.out.chgB HC5.out (by omega))
    have RT5 := Lib.hid (RT.out.chgB HC5.out (by omega))
    have H5 := Lib.hid (bel_chg H4.out HC5.out (Nat.le_refl _))
    clear hW5 c0 c1 c2 c3 c4 f0 f1 f2 f3 f4 Z4 X4 RR5 RT
    have RR5 := RR6
    obtain ⟨k0, k1, k2, k3, k4⟩ := cells5 X5.out
    obtain ⟨f0, f1, f2, f3, f4⟩ := froz5 X5.out
    refine wp_region_held_drew (S := (fun V : World => V.heap[w.heap.size]? = some (NO kd (.slice P2 n p2) (.slice J2 k j2) (.slice M3 (resL x y ms).length m3) (.slice B2 0 b2)))) (by kernel_rfl) ?_ (fun hHeld => ?_)
    · exact Z5.out
    have HHeld := Lib.hid hHeld; clear hHeld
    refine wpAnyH_take (i := 0) (oi := { dst := some 31, op := Op.move (Operand.tmp 10), type := 25, pos := "inner.go:110", after := #[], guard := none }) (v := ?_) rfl (by kernel_rfl) (by kernel_rfl) (by kernel_rfl) (fun _ _ _ h => h) (Or.inl ⟨by rfl, ?_⟩) HHeld.out ?_
    rotate_left
    · intro w hSw; clear hSw; go_simp; try with_reducible rfl
    try simp only [Act.put, List.setIfInBounds_toArray, List.set_cons_zero, List.set_cons_succ]
    refine wpAnyH_take (i := 1) (oi := { dst := some 32, op := Op.load 28 (Operand.tmp 3), type := 28, pos := "inner.go:110", after := #[{ on := 2, ground := Ground.gcOnly Departure.lateStores }], guard := none }) (v := (NV kd (.slice P2 n p2) (.slice J2 k j2) (.slice M3 (resL x y ms).length m3) (.slice B2 0 b2) : Value)) rfl (by kernel_rfl) (by kernel_rfl) (by kernel_rfl) (fun _ _ _ h => h) (Or.inl ⟨by rfl, ?_⟩) HHeld.out ?_
    · intro V hV; have hc0 := (cells5 hV).1; have hc1 := (cells5 hV).2.1; have hc2 := (cells5 hV).2.2.1; have hc3 := (cells5 hV).2.2.2.1; have hc4 := (cells5 hV).2.2.2.2; clear hV; go_simp
    try simp only [Act.put, List.setIfInBounds_toArray, List.set_cons_zero, List.set_cons_succ]
    refine wpAnyH_take (i := 2) (oi := { dst := some 6, op := Op.assign (Operand.tmp 31), type := 25, pos := "inner.go:110", after := #[{ on := 0, ground := Ground.data }, { on := 0, ground := Ground.phase }, { on := 1, ground := Ground.textOnly Departure.lateStores }], guard := none }) (v := ?_) rfl (by kernel_rfl) (by kernel_rfl) (by kernel_rfl) (fun _ _ _ h => h) (Or.inl ⟨by rfl, ?_⟩) HHeld.out ?_
    rotate_left
    · intro w hSw; clear hSw; go_simp; try with_reducible rfl
    try simp only [Act.put, List.setIfInBounds_toArray, List.set_cons_zero, List.set_cons_succ]
    refine wpAnyH_ready (rs := [3]) (by kernel_rfl) (by simp) ?_
    refine AllReadyH.cons (o := { dst := none, op := Op.store 28 (Operand.tmp 7) (Operand.tmp 32), type := 0, pos := "inner.go:110", after := #[{ on := 1, ground := Ground.data }, { on := 2, ground := Ground.chain }, { on := 0, ground := Ground.phase }, { on := 1, ground := Ground.phase }, { on := 2, ground := Ground.phase }], guard := none }) rfl (fun K hK => ?_) AllReadyH.nil
    go_simp
    generalize hW : World.setCell _ _ _ = W6
    have HC6 := Lib.hid (show Chg (fun g => g = w.heap.size + 1 + 1) W5 W6 by rw [← hW]; exact chg5 _ _ _ _ _ _ _)
    have Y6 := Lib.hid (show W6.heap[w.heap.size + 1 + 1]? = some (NO kd (.slice P2 n p2) (.slice J2 k j2) (.slice M3 (resL x y ms).length m3) (.slice B2 0 b2)) from (by rw [← hW]; exact set5w X5.out _ _ _ _ _))
    clear hW
    refine hK.out _ _ ?_ (fun hHeld => ?_)
    · exact (show W6.heap[w.heap.size]? = some (NO kd (.slice P2 n p2) (.slice J2 k j2) (.slice M3 (resL x y ms).length m3) (.slice B2 0 b2)) from keep_chg HC6.out Z5.out (fun e => by omega))
    clear HHeld; have HHeld := Lib.hid hHeld; clear hHeld
    clear hK K
    try simp only [Act.put, List.setIfInBounds_toArray, List.set_cons_zero, List.set_cons_succ]
    refine wpAnyH_done (by kernel_rfl) ?_ _
    clear HHeld
    go_wp2
    obtain ⟨k0, k1, k2, k3, k4⟩ := cells5 Y6.out
    refine bodyPost_ret (v := .tuple #[.slice T3 (forL x y ms).length t3, NV kd (.slice P2 n p2) (.slice J2 k j2) (.slice M3 (resL x y ms).length m3) (.slice B2 0 b2)]) (by simp [results, Try.results10, go_sem, k0, k1, k2, k3, k4]) rfl ⟨T3, t3, P2, p2, J2, j2, M3, m3, B2, b2, rfl, ((RT5.out.chgB HC6.out (by omega)).base (by omega)).later (drew_bel W6), ((RR5.out.chgB HC6.out (by omega)).base (by omega)).later (drew_bel W6), (bel_chg H5.out HC6.out (by omega)).drew⟩

end Go.Proofs.Ytilnpeekajnlhaa
namespace Go.Proofs.Ytilnpeekajnlhaa
open Go.RowKit Go.Maps Go.Shelf
attribute [local go_sem] Oper.semAt_some
theorem law3 : Keyed Try.prog 3 := int_keyed Try.underlying3
theorem zero3 (w : World) : (zeroValue 3).run Try.prog w = .ok (.int .i64 0) w := by kernel_rfl
theorem ikey (x : Int) : WideAt.IsKeyLit (.int .i64 x) := trivial
def upd (S : Int → Int) (x v : Int) : Int → Int := fun y => if y = x then v else S y
/-- Block M is a map that holds what S says. -/
def IM (W : World) (M m : Nat) (S : Int → Int) : Prop := ∃ D : DataW Unit, W.ownsMap Try.prog 3 (plainElem Try.prog 3) M m D ∧ Maps.IsMap D ∧ ∀ x, D.atKey (.int .i64 x) (.lit (.int .i64 0)) = .lit (.int .i64 (S x))
theorem IM.made (w : World) : IM (w.alloc (.map #[] 0)) w.heap.size 0 (fun _ => 0) := ⟨_, World.ownsMap_made (H := Unit) w Try.prog 3 _, Maps.isMap_empty, fun x => rfl⟩
theorem IM.kept {w w' : World} {M m : Nat} {S : Int → Int} {row : Option Nat} (h : IM w M m S) (hg : w.grownBy w' row) (hne : some M ≠ row) : IM w' M m S := by
  obtain ⟨D, h1, h2⟩ := h
  exact ⟨D, h1.kept hg hne, h2⟩
theorem IM.lt {w : World} {M m : Nat} {S : Int → Int} (h : IM w M m S) : M < w.heap.size := by
  obtain ⟨D, h1, _⟩ := h
  exact h1.lt
theorem IM.heap {w w' : World} {M m : Nat} {S : Int → Int} (h : IM w M m S) (e : w'.heap[M]? = w.heap[M]?) : IM w' M m S := by
  obtain ⟨D, ⟨es, ck, hb, F, hs, hD⟩, h2⟩ := h
  exact ⟨D, ⟨es, ck, by rw [e]; exact hb, F, hs, hD⟩, h2⟩
theorem IM.isMap {w : World} {M m : Nat} {S : Int → Int} (h : IM w M m S) : ∃ es ck, w.heap[M]? = some (.map es ck) := by
  obtain ⟨D, ⟨es, ck, hb, F, hs, hD⟩, h2⟩ := h
  exact ⟨es, ck, hb⟩
theorem IM.later {w w' : World} {M m : Nat} {S : Int → Int} (h : IM w M m S) (hb : Below w.heap.size w w') : IM w' M m S := h.heap (hb.block M h.lt)
theorem im_val {a b : Int} (h : (DataW.lit (.int .i64 a) : DataW Unit) = .lit (.int .i64 b)) : a = b := by injection h with e; injection e
theorem im_look (w : World) {ops : Array Oper} {rest : List Oper} {o : Oper} {a : Act} {Q : Exit → Act → World → Prop} (hg : o.guard = none) (m x : Operand) (hop : o.op = Op.lookup 107 m x false) {M n : Nat} {S : Int → Int} (h : IM w M n S)
    (hm : a.eval m = .map (some M)) (i : Int) (hx : a.eval x = .int .i64 i) (hi : (Lit.int .i64 i).wf = true) (v : Int) (hv : S i = v) (hK : wpList Try.prog ops Q rest (a.put o.dst (.int .i64 v)) w) : wpList Try.prog ops Q (o :: rest) a w := by
  subst hv
  obtain ⟨D, h1, h2, h3⟩ := h
  refine wpList_lookup_own_int w hg m x 107 hop 3 3 .i64 law3 Try.underlying107 Try.underlying3 (zero3 _) M n D hm h1 _ _ hx (keyOf_int_mk (P := Try.prog) Try.underlying3 hi) (fun c hat _ => ?_)
  rw [h3 i] at hat
  obtain rfl : S i = c := by injection hat with e1; injection e1
  exact hK
theorem im_glook (w : World) {ops : Array Oper} {rest : List Oper} {o : Oper} {a : Act} {Q : Exit → Act → World → Prop} (hw : Region.wanted o (yielded ops a.tmps) = true) (m x : Operand) (hop : o.op = Op.lookup 107 m x false) {M n : Nat} {S : Int → Int} (h : IM w M n S)
    (hm : a.eval m = .map (some M)) (i : Int) (hx : a.eval x = .int .i64 i) (hi : (Lit.int .i64 i).wf = true) (v : Int) (hv : S i = v) (hK : wpList Try.prog ops Q rest (a.put o.dst (.int .i64 v)) w) : wpList Try.prog ops Q (o :: rest) a w := by
  subst hv
  obtain ⟨D, h1, h2, h3⟩ := h
  unfold wpList
  rw [if_pos hw]
  left
  obtain ⟨c, hrun, hat, hwc⟩ := h1.lookup_int (q := .i64) law3 Try.underlying107 Try.underlying3 (zero3 w) (keyOf_int_mk (P := Try.prog) Try.underlying3 hi)
  have hc : c = S i := im_val (hat.symm.trans (h3 i))
  rw [hc] at hrun
  clear hat hwc hc
  unfold Oper.wp
  simp [execOp, hop, hm, hx, hrun, Result.andThen]
  exact hK
theorem im_put (w : World) {ops : Array Oper} {rest : List Oper} {o : Oper} {a : Act} {Q : Exit → Act → World → Prop} (hg : o.guard = none) (m x v : Operand) (hop : o.op = Op.mapUpdate 107 m x v) {M n : Nat} {S : Int → Int} (h : IM w M n S) (hn : n < maxLen)
    (hm : a.eval m = .map (some M)) (i j : Int) (hx : a.eval x = .int .i64 i) (hv : a.eval v = .int .i64 j) (hi : (Lit.int .i64 i).wf = true) (hj : (Lit.int .i64 j).wf = true)
    (hK : ∀ w', IM w' M (n + 1) (upd S i j) → w.grownBy w' (some M) → wpList Try.prog ops Q rest (a.put o.dst undef) w') : wpList Try.prog ops Q (o :: rest) a w := by
  obtain ⟨D, h1, h2, h3⟩ := h
  refine wpList_mapUpdate_own w hg m x v 107 hop 3 3 law3 Try.underlying107 _ M n D hm h1 hn _ _ _ hx hv (keyOf_int_mk (P := Try.prog) Try.underlying3 hi) _ [] (plainElem_int Try.underlying3 hj) (fun w' hw hgr => hK w' ⟨_, hw, h2.put _ _, fun y => ?_⟩ hgr)
  by_cases c : y = i
  · subst c; rw [Maps.atKey_put_same h2 (ikey y)]; simp [upd]
  · rw [Maps.atKey_put_other (by simpa using c), h3 y]; simp [upd, c]
end Go.Proofs.Ytilnpeekajnlhaa
namespace Go.Proofs.Ytilnpeekajnlhaa
open Go.RowKit Go.Maps Go.Shelf
attribute [local go_sem] Oper.semAt_some
/-- Is a number of a node's, and does none before it say the same? -/
def kidB (l : List Int) (x : Int) : Bool := decide (1 ≤ x) && (decide (x ≤ 4096) && !(l.contains x))
def kidsK (l : List Int) : Nat → Bool
  | 0 => true
  | j + 1 => kidsK l j && (match l[j]? with | some x => kidB (l.take j) x | none => true)
def kidsB (l : List Int) : Bool := kidsK l l.length
theorem kids_less {l : List Int} {j : Nat} (h : kidsK l j = false) : ∀ k, j ≤ k → kidsK l k = false := by
  intro k hk
  induction k with
  | zero => have : j = 0 := by omega
            subst this; exact h
  | succ k ih =>
    by_cases e : j = k + 1
    · rw [← e]; exact h
    · show (kidsK l k && _) = false
      rw [ih (by omega)]; rfl
/-- How often a number was seen. -/
def seenI (l : List Int) (x : Int) : Int := if l.contains x then 1 else 0
theorem ei_at {w : World} {A : Option Addr} {xs : List Int} (h : EI.Rd w A xs) {i : Nat} {x : Int} (hi : xs[i]? = some x) : ∃ b off, A = some ⟨b, off, none⟩ ∧ b < w.heap.size ∧ w.cell? ⟨b, off + i, none⟩ = some (.int .i64 x) := by
  obtain ⟨b, off, e, h1, h2⟩ := h.get hi
  exact ⟨b, off, e, h1, by simpa [EI] using h2 0 _ rfl⟩
set_option maxRecDepth 100000 in
set_option maxHeartbeats 4000000 in
theorem rightKids_any (A : Option Addr) (n c : Nat) (xs : List Int) (w : World) (hl : xs.length = n) (hn : n ≤ 1000) (hA : EI.Rd w A xs) (hx : ∀ x ∈ xs, (Lit.int .i64 x).wf = true) :
    Calls Try.prog 44 #[.slice A n c] w fun e w' => e = .returned (.bool (kidsB xs)) ∧ Below w.heap.size w w' := by
  have HL := Lib.hid hl
  have HA := Lib.hid hA
  have HX := Lib.hid hx
  have B0 := Lib.hid (alb w (.map #[] 0))
  have I0 := Lib.hid (IM.made w)
  clear hl hA hx
  have hmm := @run_makeMap Try.prog
  go_enter Try.func44, Try.ntmps44
  go_wp2
  go_loopw [5, 9] (fun kv iv wr => ∃ k : Nat, k ≤ n ∧ iv = .int .i64 k ∧ kidsK xs k = true ∧ (∃ S, IM wr w.heap.size k S ∧ ∀ x, S x = seenI (xs.take k) x) ∧ Below w.heap.size w wr) (fun _ i _ => n - (intOf i).toNat)
  case atStart => exact ⟨0, Nat.zero_le _, rfl, rfl, ⟨_, I0.out, fun x => by simp [seenI]⟩, B0.out⟩
  case round =>
    obtain ⟨k, hk, rfl, hkk, ⟨S, hm, hs⟩, hb⟩ := hrel
    have HB := Lib.hid hb
    have HM := Lib.hid hm
    have HS := Lib.hid hs
    have HK := Lib.hid hkk
    clear hb hm hs hkk hmm I0 B0
    by_cases hkn : k < n
    · have hk1 : (k : Int) < (n : Int) := by omega
      have hk0 : (0 : Int) ≤ (k : Int) := by omega
      have hk9 : (k : Int) ≤ 1000 := by omega
      obtain ⟨x, hx⟩ : ∃ x, xs[k]? = some x := ⟨_, List.getElem?_eq_getElem (by rw [HL.out]; exact hkn)⟩
      have HXK := Lib.hid hx
      have XW := Lib.hid (HX.out x (List.mem_of_getElem? hx))
      obtain ⟨b, off, rfl, hlt, c0⟩ := ei_at (HA.out.later HB.out) hx
      obtain ⟨v, hv⟩ : ∃ v, v = S x := ⟨_, rfl⟩
      have HV := Lib.hid hv.symm
      have h01 : v = 0 ∨ v = 1 := by rw [hv, HS.out]; unfold seenI; split <;> simp
      have hvs := HS.out x
      rw [← hv] at hvs
      have NX : Hid (∀ B, kidB (xs.take k) x = B → kidsK xs (k + 1) = B) := Lib.hid (fun B h => by show (kidsK xs k && _) = B; rw [HK.out, HXK.out]; simpa using h)
      have SX : Hid (∀ y, upd S x (v + 1) y = if y = x then v + 1 else seenI (xs.take k) y) := Lib.hid (fun y => by unfold upd; split <;> simp_all [HS.out])
      clear hx hlt hv
      by_cases hx1 : x < 1
      · have FB := Lib.hid (show kidsB xs = false from kids_less (NX.out false (by unfold kidB; rw [decide_eq_false (by omega)]; rfl)) _ (by rw [HL.out]; omega))
        clear hvs
        rcases h01 with rfl | rfl <;>
        · go_wp2_with (first
            | (at_lookup; refine im_look _ rfl (.tmp 13) (.tmp 14) rfl HM.out rfl x rfl XW.out _ HV.out ?_)
            | (at_mapUpdate; refine im_put _ rfl (.tmp 13) (.tmp 14) (.tmp 16) rfl HM.out (by unfold maxLen; omega) rfl x _ rfl rfl XW.out (by decide) ?_; intro w3 hm3 hg3; have M3 := Lib.hid hm3; have B3 := Lib.hid (HB.out.trans ((chg_of_grown hg3).below (fun g e => by injection e with e; omega) HB.out.size)); clear hm3 hg3)
            | fail)
          go_ret
          exact ⟨by rw [FB.out]; rfl, B3.out⟩
      · by_cases hx2 : 4096 < x
        · have hx3 : x > 4096 := hx2
          have FB := Lib.hid (show kidsB xs = false from kids_less (NX.out false (by unfold kidB; rw [decide_eq_false (p := x ≤ 4096) (by omega)]; simp)) _ (by rw [HL.out]; omega))
          clear hvs
          rcases h01 with rfl | rfl <;>
          · go_wp2_with (first
              | (at_lookup; refine im_look _ rfl (.tmp 13) (.tmp 14) rfl HM.out rfl x rfl XW.out _ HV.out ?_)
              | (at_mapUpdate; refine im_put _ rfl (.tmp 13) (.tmp 14) (.tmp 16) rfl HM.out (by unfold maxLen; omega) rfl x _ rfl rfl XW.out (by decide) ?_; intro w3 hm3 hg3; have M3 := Lib.hid hm3; have B3 := Lib.hid (HB.out.trans ((chg_of_grown hg3).below (fun g e => by injection e with e; omega) HB.out.size)); clear hm3 hg3)
              | fail)
            go_ret
            exact ⟨by rw [FB.out]; rfl, B3.out⟩
        · have hx3 : ¬ x > 4096 := hx2
          rcases h01 with rfl | rfl
          · have hc : (xs.take k).contains x = false := by
              unfold seenI at hvs
              cases h : (xs.take k).contains x
              · rfl
              · rw [h] at hvs; simp at hvs
            have FB := Lib.hid (NX.out true (by unfold kidB; rw [decide_eq_true (p := 1 ≤ x) (by omega), decide_eq_true (p := x ≤ 4096) (by omega), hc]; rfl))
            have HC := Lib.hid hc
            clear hvs hc
            go_wp2_with (first
              | (at_lookup; refine im_look _ rfl (.tmp 13) (.tmp 14) rfl HM.out rfl x rfl XW.out _ HV.out ?_)
              | (at_mapUpdate; refine im_put _ rfl (.tmp 13) (.tmp 14) (.tmp 16) rfl HM.out (by unfold maxLen; omega) rfl x _ rfl rfl XW.out (by decide) ?_; intro w3 hm3 hg3; have M3 := Lib.hid hm3; have B3 := Lib.hid (HB.out.trans ((chg_of_grown hg3).below (fun g e => by injection e with e; omega) HB.out.size)); clear hm3 hg3)
              | (at_lookup; refine im_glook _ (by rfl) (.tmp 24) (.tmp 25) rfl M3.out rfl x rfl XW.out 1 (by simp [upd]) ?_)
              | fail)
            refine ⟨⟨k + 1, by omega, by simp, FB.out, ⟨_, M3.out, fun y => ?_⟩, B3.out⟩, by simp [intOf]; omega⟩
            have q := SX.out y
            rw [show (1 : Int) = 0 + 1 from rfl]
            rw [q]
            have e := List.take_add_one (l := xs) (i := k)
            rw [HXK.out] at e
            rw [e]
            unfold seenI
            by_cases hy : y = x
            · subst hy; simp
            · rw [if_neg hy]; simp [hy]
          · have hc : (xs.take k).contains x = true := by
              unfold seenI at hvs
              cases h : (xs.take k).contains x
              · rw [h] at hvs; simp at hvs
              · rfl
            have FB := Lib.hid (show kidsB xs = false from kids_less (NX.out false (by unfold kidB; rw [hc]; simp)) _ (by rw [HL.out]; omega))
            clear hvs hc
            go_wp2_with (first
              | (at_lookup; refine im_look _ rfl (.tmp 13) (.tmp 14) rfl HM.out rfl x rfl XW.out _ HV.out ?_)
              | (at_mapUpdate; refine im_put _ rfl (.tmp 13) (.tmp 14) (.tmp 16) rfl HM.out (by unfold maxLen; omega) rfl x _ rfl rfl XW.out (by decide) ?_; intro w3 hm3 hg3; have M3 := Lib.hid hm3; have B3 := Lib.hid (HB.out.trans ((chg_of_grown hg3).below (fun g e => by injection e with e; omega) HB.out.size)); clear hm3 hg3)
              | (at_lookup; refine im_glook _ (by rfl) (.tmp 24) (.tmp 25) rfl M3.out rfl x rfl XW.out 2 (by simp [upd]) ?_)
              | fail)
            go_ret
            exact ⟨by rw [FB.out]; rfl, B3.out⟩
    · have hk1 : ¬ (k : Int) < (n : Int) := by omega
      have e : k = n := by omega
      have FB := Lib.hid (show kidsB xs = true by unfold kidsB; rw [HL.out, ← e]; exact HK.out)
      go_wp2
      go_ret
      exact ⟨by rw [FB.out]; rfl, HB.out⟩
end Go.Proofs.Ytilnpeekajnlhaa
