/- Nodes: the weights of the kids. -/
import Derived.Test.YtilnpeekajnlhaaGreatTh02
import Derived.Test.YtilnpeekajnlhaaGreatTh17
import Derived.Test.YtilnpeekajnlhaaGreatTh16
import Derived.Deep.RegionHeld3
set_option linter.unusedVariables false
set_option linter.unusedSimpArgs false
namespace Go.Proofs.YtilnpeekajnlhaaGreat
open Go.RowKit Go.Maps Go.Shelf
attribute [local go_sem] Oper.semAt_some
theorem boxed_later {w w' : World} {N : Nat} {t : TypeId} {v : Value} (h : Boxed w N t v) (hb : Below w.heap.size w w') : Boxed w' N t v := (hb.block N h.lt).trans h
theorem boxed_chg {w w' : World} {N : Nat} {t : TypeId} {v : Value} {D : Nat → Prop} (h : Boxed w N t v) (hb : Chg D w w') (hn : ¬ D N) : Boxed w' N t v := (hb.block N h.lt hn).trans h
theorem own_chg' {D : Nat → Prop} {w w' : World} {base n size : Nat} {e : TypeId} {v : Value} {xs : List Value} (h : w.ownsRow base e size v n xs) (hc : Chg D w w') (hD : ∀ g, v.ownBlock = some g → ¬ D g) : w'.ownsRow base e size v n xs := by
  rcases h with ⟨h1, h2 | ⟨g, cap, cur, rfl, hb, hh, hr⟩⟩
  · exact ⟨h1, .inl h2⟩
  · exact ⟨h1, .inr ⟨g, cap, cur, rfl, hb, (hc.block g (Array.getElem?_eq_some_iff.1 hh).1 (hD g rfl)).trans hh, hr⟩⟩
theorem row_chg {α : Type} {E : RE α} {D : Nat → Prop} {w w' : World} {base : Nat} {A : Option Addr} {l : List α} {c : Nat} (h : E.Row w base A l c) (hc : Chg D w w') (hD : ∀ g, RE.fp A c = some g → ¬ D g) : E.Row w' base A l c := by
  rcases h with h | ⟨h0, h⟩
  · exact .inl h
  · refine .inr ⟨h0, own_chg' h hc (fun g hg => hD g ?_)⟩
    have ob : ∀ (A : Option Addr) (n c : Nat), (Value.slice A n c).ownBlock = A.map (·.block) := fun A n c => by cases A <;> rfl
    rw [ob] at hg
    have : ¬ c = 0 := by omega
    simp [RE.fp, this, hg]
/-- What lies between the rounds: the box of the slice, and its row. -/
def WtI (bs : Nat) (xs : List Int) (k : Nat) (D : Nat → Prop) (W : World) : Prop :=
  ∃ A' c', D = (fun g => g = bs ∨ RE.fp A' c' = some g) ∧ Boxed W bs 24 (.slice A' k c') ∧ EI.Row W (bs + 1) A' (xs.take k) c'
theorem wtI_loc (bs B : Nat) (xs : List Int) : LocB B (WtI bs xs) := by
  rintro k D W W' ⟨A', c', rfl, h1, h2⟩ hc
  exact ⟨A', c', rfl, boxed_chg h1 hc (fun h => h.1 (.inl rfl)), row_chg h2 hc (fun g e h => h.1 (.inr e))⟩
theorem wt_fin {bs q : Nat} {xs : List Int} {Z U w3 w4 : World} {A' A2 : Option Addr} {c' c2 : Nat} {v : Int} (hnx : xs.take (q + 1) = xs.take q ++ [v]) (hb : Below Z.heap.size Z U) (hr : EI.Row U (bs + 1) A' (xs.take q) c')
    (r1 : EI.Row w3 (bs + 1) A2 (xs.take q ++ [v]) c2) (r2 : U.grownBy w3 (RE.fp A' c')) (r3 : RE.fp A2 c2 = none ∨ RE.fp A2 c2 = RE.fp A' c' ∨ RE.fp A2 c2 = some U.heap.size) (hc : Chg (fun g => g = bs) w3 w4) (bx : Boxed w4 bs 24 (.slice A2 (q + 1) c2)) :
    ∃ D', Gr (fun g => g = bs ∨ RE.fp A' c' = some g) D' Z w4 ∧ Chg (fun g => g = bs ∨ RE.fp A' c' = some g) Z w4 ∧ WtI bs xs (q + 1) D' w4 := by
  have q1 := r1
  rw [← hnx] at q1
  have hs3 := r2.size
  have hs4 := hc.size
  have hsb := hb.size
  refine ⟨fun g => g = bs ∨ RE.fp A2 c2 = some g, fun g hg => ?_, ?_, A2, c2, rfl, bx, row_chg q1 hc (fun g e h => by have := (q1.fp_lt e).1; omega)⟩
  · rcases hg with e | e
    · exact .inl (.inl e)
    · rcases r3 with h | h | h
      · rw [h] at e; cases e
      · rw [h] at e; exact .inl (.inr e)
      · have e2 := h.symm.trans e
        have := (q1.fp_lt e).2
        simp at e2
        exact .inr ⟨by omega, by omega⟩
  · exact ((Chg.of_below hb).trans (chg_of_grown r2) (fun g hg => .inl (.inr hg))).trans hc (fun g hg => .inl (.inl hg))
def wgt (ms : List MG) (x : Pv.Part) : Int := byN (forL x.2.1 x.2.2 ms)
def wgts (ps : List ByteArray) (f t : ByteArray) (ms : List MG) : List Int := (Pv.upto ps f t (Pv.many ps f t)).map (wgt ms)
set_option maxRecDepth 100000 in
set_option maxHeartbeats 8000000 in
theorem weights_any (kd : Int) (P J M B : Option Addr) (n pc k kc m mc b bc : Nat) (ps : List ByteArray) (ms : List MG) (f t : ByteArray) (w : World) (hl : ps.length = n) (hn : n ≤ 100) (hP : Pv.RdS w P ps) (hm : ms.length = m) (hm1 : m ≤ 1000) (hM : EG.Rd w M ms) (ho : OkA ms) (hok : ∀ x ∈ Pv.upto ps f t (Pv.many ps f t), OkA (forL x.2.1 x.2.2 ms)) :
    Calls Tryz.prog 46 #[NV kd (.slice P n pc) (.slice J k kc) (.slice M m mc) (.slice B b bc), .agg #[.string f, .string t]] w fun e w' => ∃ A' c', e = .returned (.slice A' (wgts ps f t ms).length c') ∧ EI.Row w' w.heap.size A' (wgts ps f t ms) c' ∧ Below w.heap.size w w' := by
  have AL := Lib.hid (fun W (h : Below w.heap.size w W) => Pv.all_any P ps n pc f t W hl (by omega) (Rd.later hP h))
  have FA := Lib.hid (fun x y W (h : Below w.heap.size w W) => for_any x y M m mc ms W hm hm1 (hM.later h) ho)
  have FL := Lib.hid (fun x y => Nat.le_trans (forL_len x y ms) (by omega : ms.length ≤ 1000))
  have HOK := Lib.hid hok
  have HL := Lib.hid hl
  obtain ⟨ws, hws⟩ : ∃ ws, ws = wgts ps f t ms := ⟨_, rfl⟩
  rw [← hws]
  have HWS := Lib.hid hws
  have HWL : Hid (ws.length = (Pv.upto ps f t (Pv.many ps f t)).length) := Lib.hid (by rw [hws]; simp [wgts])
  have HML : Hid ((Pv.upto ps f t (Pv.many ps f t)).length ≤ 1000) := Lib.hid (by rw [Pv.upto_length]; have := Pv.many_le ps f t; omega)
  clear hl hP hm hm1 hM ho hok hws
  have y1 := two_new w (NO kd (.slice P n pc) (.slice J k kc) (.slice M m mc) (.slice B b bc)) (rgc f t)
  have b1 := bel_alloc (alb w (NO kd (.slice P n pc) (.slice J k kc) (.slice M m mc) (.slice B b bc))) (rgc f t)
  have b2 := alb ((w.alloc (NO kd (.slice P n pc) (.slice J k kc) (.slice M m mc) (.slice B b bc))).alloc (rgc f t)) (.cells #[.slice none 0 0] 24)
  have H0 := Lib.hid (bel_trans b1 b2)
  have Z := Lib.hid (keep_bel b2 y1.1)
  have Y := Lib.hid (keep_bel b2 y1.2)
  have V0 : Hid (Boxed (((w.alloc (NO kd (.slice P n pc) (.slice J k kc) (.slice M m mc) (.slice B b bc))).alloc (rgc f t)).alloc (.cells #[.slice none 0 0] 24)) (w.heap.size + 2) 24 (.slice none 0 0)) := Lib.hid (by
    have h := Boxed.new ((w.alloc (NO kd (.slice P n pc) (.slice J k kc) (.slice M m mc) (.slice B b bc))).alloc (rgc f t)) 24 (.slice none 0 0)
    simp only [World.size_alloc] at h
    exact h)
  have HSZ : Hid ((((w.alloc (NO kd (.slice P n pc) (.slice J k kc) (.slice M m mc) (.slice B b bc))).alloc (rgc f t)).alloc (.cells #[.slice none 0 0] 24)).heap.size = w.heap.size + 3) := Lib.hid (by simp)
  clear y1 b1 b2
  obtain ⟨c0, c1, c2, c3, c4⟩ := cells5 Z.out
  obtain ⟨d0, d1, -, -⟩ := has_two Y.out
  refine (callsIn_wide (n := 5)).1 ?_
  refine callsIn_of_wp_marks Tryz.func46 rfl trivial ?_ rfl
  simp only [Tryz.ntmps46, List.size_toArray, List.length_cons, List.length_nil, Nat.reduceAdd, Nat.reduceSub, Array.replicate_succ, Array.replicate_zero, List.push_toArray, List.append_toArray, List.nil_append, List.cons_append]
  gi_wp2_with fail
  refine ⟨trivial, (callsIn_wide.2 (AL.out _ H0.out)).mono ?_⟩
  rintro e W0 ⟨B1, B2, B3, rfl, hIt, hb⟩
  have HIT := Lib.hid hIt
  have HB := Lib.hid (bel_trans H0.out hb)
  have NZ0 := Lib.hid (keep_bel hb Z.out)
  have BX0 := Lib.hid (boxed_later V0.out hb)
  have HS0 := Lib.hid hb.size
  clear hIt hb c0 c1 c2 c3 c4 d0 d1
  unfold Pv.itv
  gi_wp2
  rw [HSZ.out] at HIT HS0
  refine range_R (gf := 95) (lb := #[.pointer (some ⟨B1, 0, none⟩), .pointer (some ⟨B2, 0, none⟩), .pointer (some ⟨B3, 0, none⟩)]) (encs := Pv.encs) (xs := Pv.upto ps f t (Pv.many ps f t)) rfl (enters_of Tryz.func95 (by kernel_rfl) rfl) (all_seq B1 B2 B3 _ _ ps f t (by rw [HL.out]; omega)) HIT.out (fun W W' h hb => h.later hb) (fun g hg => hg.2) (fun _ => rfl) (WtI (w.heap.size + 2) ws) (fun _ _ _ _ => False) (wtI_loc _ _ _) (fun c k D W W' h _ => h)
    (fun g => g = w.heap.size + 2) (fun g hg => ?_) ⟨none, 0, by funext g; simp [RE.fp], BX0.out, .inl ⟨rfl, rfl⟩⟩
    (fun x U => { tmps := #[NV kd (.slice P n pc) (.slice J k kc) (.slice M m mc) (.slice B b bc), .agg #[.string f, .string t], .pointer (some ⟨w.heap.size, 0, none⟩), .pointer (some ⟨w.heap.size + 1, 0, none⟩), .slice none 0 0, .pointer (some ⟨w.heap.size + 2, 0, none⟩), undef, .pointer (some ⟨U.heap.size, 0, none⟩), .pointer (some ⟨w.heap.size, 1, none⟩), .slice P n pc, .agg #[.string f, .string t], .func (.func 95) #[] #[.pointer (some ⟨B1, 0, none⟩), .pointer (some ⟨B2, 0, none⟩), .pointer (some ⟨B3, 0, none⟩)], .int .i64 (x.1 : Int), .agg #[.string x.2.1, .string x.2.2], undef, undef, undef, undef, undef, undef, undef, undef, undef], defers := [] }) (fun x U => U.alloc (rgc x.2.1 x.2.2)) (fun x U => alb _ _) ?_ ?_ ?_ ?_
  · have hg' : g = w.heap.size + 2 := hg
    have := HS0.out
    refine ⟨fun h => ?_, by omega⟩
    have := h.1
    omega
  · intro m l x U K hK
    simp only [Pv.encs]
    gi_wp2
    exact hK
  · rintro mm l q x D U V o hx hl hlU rfl hinD hlD hgr hch ⟨A', c', rfl, hbx, hrow⟩
    obtain ⟨Z1, hZ⟩ : ∃ Z1, Z1 = (U.alloc (rgc x.2.1 x.2.2)).putObj l o := ⟨_, rfl⟩
    try simp only at hbx hrow hch
    rw [← hZ] at hbx hrow hch
    have hxm := List.mem_of_getElem? hx
    have hkl : q < (Pv.upto ps f t (Pv.many ps f t)).length := (List.getElem?_eq_some_iff.1 hx).1
    have hkt : (ws.take q).length = q := by rw [List.length_take, HWL.out]; omega
    have hwx : ws[q]? = some (wgt ms x) := by rw [HWS.out]; unfold wgts; rw [List.getElem?_map, hx]; rfl
    obtain ⟨xi, y, z⟩ := x
    obtain ⟨v, hv⟩ : ∃ v, v = wgt ms (xi, y, z) := ⟨_, rfl⟩
    have hnx : ws.take (q + 1) = ws.take q ++ [v] := by rw [List.take_add_one, hwx, hv]; rfl
    have FB := Lib.hid (fun A c W (h : EG.Rd W A (forL y z ms)) => bytes_any A (forL y z ms).length c (forL y z ms) W rfl (FL.out y z) h (HOK.out _ hxm))
    rw [show byN (forL y z ms) = v from hv.symm] at FB
    have hux : Z1.heap[U.heap.size]? = some (rgc y z) := by
      rw [hZ]
      exact (World.putObj_heap_other (by omega)).trans (heap_alloc_new U (rgc y z))
    have hnz := keep_chg hch NZ0.out (fun e => by omega)
    have b := drew_bel Z1
    have hbw : Below w.heap.size w Z1 := HB.out.trans (hch.below (fun g (e : g = _) => by omega) HB.out.size)
    have NZ := Lib.hid (keep_bel b hnz)
    have NX := Lib.hid (keep_bel b hux)
    have BX := Lib.hid (boxed_later hbx b)
    have RW := Lib.hid (hrow.later b)
    have H1 := H0
    replace H0 := Lib.hid (bel_trans hbw b)
    have CB := Lib.hid b
    have hzs : w.heap.size + 3 ≤ Z1.heap.size := by have := HS0.out; have := hch.size; omega
    have HS : Hid (w.heap.size + 2 + 1 ≤ Z1.drew.heap.size) := Lib.hid hzs
    have HUS : Hid (w.heap.size + 3 ≤ U.heap.size) := Lib.hid (by have h1 := (Array.getElem?_eq_some_iff.1 hux).1; have := HS0.out; omega)
    have HROW : Hid (∀ g, RE.fp A' c' = some g → g ≠ U.heap.size) := Lib.hid (fun g e h => by have := hinD g (.inr e); omega)
    have HKT := Lib.hid hkt
    have HNX := Lib.hid hnx
    have HK9 : Hid (q ≤ 1000000) := Lib.hid (by have := HML.out; omega)
    have c5 := BX.out.cell
    clear hx hl hlU hinD hlD hgr hch hkl hkt hnx hbx hrow hzs hbw hux hnz hxm hwx hv b
    change (Code.block 1 _).wpIn _ _ _ _ _ _
    rw [← hZ]
    clear hZ
    gi_wp2_with fail
    refine region_round_held (S := (fun V : World => V.heap[w.heap.size]? = some (NO kd (.slice P n pc) (.slice J k kc) (.slice M m mc) (.slice B b bc)) ∧ V.heap[U.heap.size]? = some (rgc y z))) (by kernel_rfl) (fun o ho c => ?_) ?_ (fun hHeld => ?_)
    · simp only [List.mem_toArray, List.mem_cons, List.not_mem_nil, or_false] at ho; rcases ho with rfl | rfl | rfl | rfl | rfl | rfl | rfl | rfl | rfl <;> (intro h; cases h)
    · exact ⟨NZ.out, NX.out⟩
    have HHeld := Lib.hid hHeld; clear hHeld
    refine wT (i := 1) (oi := { dst := some 15, op := Op.fieldAddr 28 (Operand.tmp 2) 3, type := 0, pos := "inner.go:75", after := #[], guard := none }) (v := ?_) rfl (Or.inl ⟨by rfl, ?_⟩) HHeld.out ?_
    rotate_left
    · intro w hSw; clear hSw; go_simp; try with_reducible rfl
    try simp only [pu, pn, s1, s2, s3]
    refine wT (i := 2) (oi := { dst := some 16, op := Op.load 25 (Operand.tmp 15), type := 25, pos := "inner.go:75", after := #[{ on := 1, ground := Ground.data }], guard := none }) (v := (.slice M m mc : Value)) rfl (Or.inl ⟨by rfl, ?_⟩) HHeld.out ?_
    · intro V hV; have hc0 := (cells5 hV.1).2.2.2.1; clear hV; go_simp
    try simp only [pu, pn, s1, s2, s3]
    refine wT (i := 3) (oi := { dst := some 17, op := Op.load 30 (Operand.tmp 7), type := 30, pos := "inner.go:75", after := #[], guard := none }) (v := (.agg #[.string y, .string z] : Value)) rfl (Or.inl ⟨by rfl, ?_⟩) HHeld.out ?_
    · intro V hV; have hc0 := (has_two hV.2).1; have hc1 := (has_two hV.2).2.1; clear hV; go_simp
    try simp only [pu, pn, s1, s2, s3]
    refine wpAnyH_ready (rs := [0, 4]) (by kernel_rfl) (by simp) ?_
    refine AllReadyH.cons (o := { dst := some 14, op := Op.load 24 (Operand.tmp 5), type := 24, pos := "inner.go:75", after := #[], guard := none }) rfl (fun K hK => ?_) (AllReadyH.cons (o := { dst := some 18, op := Op.call { callee := Callee.value (Operand.func 45), args := #[Operand.tmp 16, Operand.tmp 17], argTypes := #[25, 30] }, type := 25, pos := "inner.go:75", after := #[{ on := 2, ground := Ground.data }, { on := 3, ground := Ground.data }], guard := none }) rfl (fun K hK => ?_) AllReadyH.nil)
    · go_simp
      refine hK.out _ _ ?_ (fun hHeld => ?_)
      · exact ⟨NZ.out, NX.out⟩
      clear HHeld; have HHeld := Lib.hid hHeld; clear hHeld
      clear hK K
      try simp only [pu, pn, s1, s2, s3]
      refine wpAnyH_ready (rs := [4]) (by kernel_rfl) (by simp) ?_
      refine AllReadyH.cons (o := { dst := some 18, op := Op.call { callee := Callee.value (Operand.func 45), args := #[Operand.tmp 16, Operand.tmp 17], argTypes := #[25, 30] }, type := 25, pos := "inner.go:75", after := #[{ on := 2, ground := Ground.data }, { on := 3, ground := Ground.data }], guard := none }) rfl (fun K hK => ?_) AllReadyH.nil
      go_simp
      go_at_call 45
      with_reducible refine (FA.out y z _ H0.out).mono ?_
      rintro e w48 ⟨⟨Af, cf, rfl, rf⟩, b⟩
      have RF := Lib.hid rf.rd; clear rf; replace NZ := Lib.hid (keep_bel b NZ.out); replace NX := Lib.hid (keep_bel b NX.out); replace BX := Lib.hid (boxed_later BX.out b); replace RW := Lib.hid (RW.out.later b); replace H0 := Lib.hid (bel_trans H0.out b); replace CB := Lib.hid (bel_trans CB.out b); replace HS := Lib.hid (Nat.le_trans HS.out b.size); clear c5 b; have c5 := BX.out.cell
      refine hK.out _ _ ?_ (fun hHeld => ?_)
      · exact ⟨NZ.out, NX.out⟩
      clear HHeld; have HHeld := Lib.hid hHeld; clear hHeld
      clear hK K
      try simp only [pu, pn, s1, s2, s3]
      refine wpAnyH_ready (rs := [5]) (by kernel_rfl) (by simp) ?_
      refine AllReadyH.cons (o := { dst := some 19, op := Op.call { callee := Callee.value (Operand.func 78), args := #[Operand.tmp 18], argTypes := #[25] }, type := 3, pos := "inner.go:75", after := #[{ on := 4, ground := Ground.data }, { on := 4, ground := Ground.chain }], guard := none }) rfl (fun K hK => ?_) AllReadyH.nil
      go_simp
      go_at_call 78
      with_reducible refine (FB.out Af cf _ RF.out).mono ?_
      rintro e w100 ⟨rfl, b⟩
      replace NZ := Lib.hid (keep_bel b NZ.out); replace NX := Lib.hid (keep_bel b NX.out); replace BX := Lib.hid (boxed_later BX.out b); replace RW := Lib.hid (RW.out.later b); replace H0 := Lib.hid (bel_trans H0.out b); replace CB := Lib.hid (bel_trans CB.out b); replace HS := Lib.hid (Nat.le_trans HS.out b.size); clear c5 b; have c5 := BX.out.cell
      refine hK.out _ _ ?_ (fun hHeld => ?_)
      · exact ⟨NZ.out, NX.out⟩
      clear HHeld; have HHeld := Lib.hid hHeld; clear hHeld
      clear hK K
      try simp only [pu, pn, s1, s2, s3]
      refine wpAnyH_ready (rs := [6]) (by kernel_rfl) (by simp) ?_
      refine AllReadyH.cons (o := { dst := some 20, op := Op.buildSlice 24 1 #[(0, Operand.tmp 19)], type := 24, pos := "inner.go:75", after := #[{ on := 5, ground := Ground.data }], guard := none }) rfl (fun K hK => ?_) AllReadyH.nil
      go_simp
      generalize hWb : World.alloc w100 _ = wb
      have b : Below w100.heap.size w100 wb := by rw [← hWb]; exact alb _ _
      have RL := Lib.hid (show EI.Rd wb (some ⟨w100.heap.size, 0, none⟩) [v] by rw [← hWb]; exact RE.Rd.lit (E := EI) w100 3 [v] #[.int .i64 v] rfl)
      clear hWb; replace NZ := Lib.hid (keep_bel b NZ.out); replace NX := Lib.hid (keep_bel b NX.out); replace BX := Lib.hid (boxed_later BX.out b); replace RW := Lib.hid (RW.out.later b); replace H0 := Lib.hid (bel_trans H0.out b); replace CB := Lib.hid (bel_trans CB.out b); replace HS := Lib.hid (Nat.le_trans HS.out b.size); clear c5 b; have c5 := BX.out.cell
      refine hK.out _ _ ?_ (fun hHeld => ?_)
      · exact ⟨NZ.out, NX.out⟩
      clear HHeld; have HHeld := Lib.hid hHeld; clear hHeld
      clear hK K
      try simp only [pu, pn, s1, s2, s3]
      refine wpAnyH_ready (rs := [7]) (by kernel_rfl) (by simp) ?_
      refine AllReadyH.cons (o := { dst := some 21, op := Op.call { callee := Callee.builtin Builtin.append, args := #[Operand.tmp 14, Operand.tmp 20], argTypes := #[24, 24] }, type := 24, pos := "inner.go:75", after := #[{ on := 0, ground := Ground.data }, { on := 6, ground := Ground.data }, { on := 5, ground := Ground.chain }], guard := none }) rfl (fun K hK => ?_) AllReadyH.nil
      refine RE.step_put EI _ rfl (.tmp 14) (.tmp 20) rfl (base := w.heap.size + 2 + 1) A' q c' (ws.take q) (some ⟨w100.heap.size, 0, none⟩) 1 1 [v] (by simp [Act.eval, Act.put]) (by simp [Act.eval, Act.put]) RW.out HKT.out HK9.out HS.out rfl (by omega) RL.out ?_
      intro A2 c2 w3 r1 r2 r3
      have R1 := Lib.hid r1; have R2 := Lib.hid r2; have R3 := Lib.hid r3; have bx3 := boxed_chg BX.out (chg_of_grown r2) (fun e => by have := (RW.out.fp_lt e).1; omega); have BX3 := Lib.hid bx3; clear c5; have c5 := bx3.cell; have f5 := bx3.frozen; replace NZ := Lib.hid (keep_chg (chg_of_grown r2) NZ.out (fun e => by have := (RW.out.fp_lt e).1; omega)); replace NX := Lib.hid (keep_chg (chg_of_grown r2) NX.out (fun e => by have h1 := HROW.out _ e; omega)); clear bx3 r1 r2 r3
      refine hK.out _ _ ?_ (fun hHeld => ?_)
      · exact ⟨NZ.out, NX.out⟩
      clear HHeld; have HHeld := Lib.hid hHeld; clear hHeld
      clear hK K
      try simp only [pu, pn, s1, s2, s3]
      refine wpAnyH_ready (rs := [8]) (by kernel_rfl) (by simp) ?_
      refine AllReadyH.cons (o := { dst := none, op := Op.store 24 (Operand.tmp 5) (Operand.tmp 21), type := 0, pos := "inner.go:75", after := #[{ on := 7, ground := Ground.data }, { on := 7, ground := Ground.chain }, { on := 0, ground := Ground.phase }, { on := 1, ground := Ground.phase }, { on := 2, ground := Ground.phase }, { on := 3, ground := Ground.phase }, { on := 4, ground := Ground.phase }, { on := 5, ground := Ground.phase }, { on := 6, ground := Ground.phase }, { on := 7, ground := Ground.phase }], guard := none }) rfl (fun K hK => ?_) AllReadyH.nil
      go_simp
      generalize hW4 : World.setCell _ _ _ = w4
      have HC4 := Lib.hid (show Chg (fun g => g = w.heap.size + 2) w3 w4 by rw [← hW4]; exact Chg.set (D := fun g => g = w.heap.size + 2) w3 _ rfl)
      have BX4 := Lib.hid (show Boxed w4 (w.heap.size + 2) 24 (.slice A2 (q + 1) c2) by rw [← hW4]; exact BX3.out.set _)
      clear hW4; replace NZ := Lib.hid (keep_chg HC4.out NZ.out (by omega)); replace NX := Lib.hid (keep_chg HC4.out NX.out (by have := HUS.out; omega))
      have HFIN := Lib.hid (wt_fin (bs := w.heap.size + 2) (xs := ws) HNX.out CB.out RW.out R1.out R2.out R3.out HC4.out BX4.out)
      refine hK.out _ _ ?_ (fun hHeld => ?_)
      · exact ⟨NZ.out, NX.out⟩
      clear HHeld; have HHeld := Lib.hid hHeld; clear hHeld
      clear hK K
      try simp only [pu, pn, s1, s2, s3]
      refine wpAnyH_done (by kernel_rfl) ?_ _
      clear HHeld
      refine calm_normal ?_
      first | exact HFIN.out | (gi_wp2; exact HFIN.out)
    · go_simp
      go_at_call 45
      with_reducible refine (FA.out y z _ H0.out).mono ?_
      rintro e w48 ⟨⟨Af, cf, rfl, rf⟩, b⟩
      have RF := Lib.hid rf.rd; clear rf; replace NZ := Lib.hid (keep_bel b NZ.out); replace NX := Lib.hid (keep_bel b NX.out); replace BX := Lib.hid (boxed_later BX.out b); replace RW := Lib.hid (RW.out.later b); replace H0 := Lib.hid (bel_trans H0.out b); replace CB := Lib.hid (bel_trans CB.out b); replace HS := Lib.hid (Nat.le_trans HS.out b.size); clear c5 b; have c5 := BX.out.cell
      refine hK.out _ _ ?_ (fun hHeld => ?_)
      · exact ⟨NZ.out, NX.out⟩
      clear HHeld; have HHeld := Lib.hid hHeld; clear hHeld
      clear hK K
      try simp only [pu, pn, s1, s2, s3]
      refine wpAnyH_ready (rs := [0, 5]) (by kernel_rfl) (by simp) ?_
      refine AllReadyH.cons (o := { dst := some 14, op := Op.load 24 (Operand.tmp 5), type := 24, pos := "inner.go:75", after := #[], guard := none }) rfl (fun K hK => ?_) (AllReadyH.cons (o := { dst := some 19, op := Op.call { callee := Callee.value (Operand.func 78), args := #[Operand.tmp 18], argTypes := #[25] }, type := 3, pos := "inner.go:75", after := #[{ on := 4, ground := Ground.data }, { on := 4, ground := Ground.chain }], guard := none }) rfl (fun K hK => ?_) AllReadyH.nil)
      · go_simp
        refine hK.out _ _ ?_ (fun hHeld => ?_)
        · exact ⟨NZ.out, NX.out⟩
        clear HHeld; have HHeld := Lib.hid hHeld; clear hHeld
        clear hK K
        try simp only [pu, pn, s1, s2, s3]
        refine wpAnyH_ready (rs := [5]) (by kernel_rfl) (by simp) ?_
        refine AllReadyH.cons (o := { dst := some 19, op := Op.call { callee := Callee.value (Operand.func 78), args := #[Operand.tmp 18], argTypes := #[25] }, type := 3, pos := "inner.go:75", after := #[{ on := 4, ground := Ground.data }, { on := 4, ground := Ground.chain }], guard := none }) rfl (fun K hK => ?_) AllReadyH.nil
        go_simp
        go_at_call 78
        with_reducible refine (FB.out Af cf _ RF.out).mono ?_
        rintro e w100 ⟨rfl, b⟩
        replace NZ := Lib.hid (keep_bel b NZ.out); replace NX := Lib.hid (keep_bel b NX.out); replace BX := Lib.hid (boxed_later BX.out b); replace RW := Lib.hid (RW.out.later b); replace H0 := Lib.hid (bel_trans H0.out b); replace CB := Lib.hid (bel_trans CB.out b); replace HS := Lib.hid (Nat.le_trans HS.out b.size); clear c5 b; have c5 := BX.out.cell
        refine hK.out _ _ ?_ (fun hHeld => ?_)
        · exact ⟨NZ.out, NX.out⟩
        clear HHeld; have HHeld := Lib.hid hHeld; clear hHeld
        clear hK K
        try simp only [pu, pn, s1, s2, s3]
        refine wpAnyH_ready (rs := [6]) (by kernel_rfl) (by simp) ?_
        refine AllReadyH.cons (o := { dst := some 20, op := Op.buildSlice 24 1 #[(0, Operand.tmp 19)], type := 24, pos := "inner.go:75", after := #[{ on := 5, ground := Ground.data }], guard := none }) rfl (fun K hK => ?_) AllReadyH.nil
        go_simp
        generalize hWb : World.alloc w100 _ = wb
        have b : Below w100.heap.size w100 wb := by rw [← hWb]; exact alb _ _
        have RL := Lib.hid (show EI.Rd wb (some ⟨w100.heap.size, 0, none⟩) [v] by rw [← hWb]; exact RE.Rd.lit (E := EI) w100 3 [v] #[.int .i64 v] rfl)
        clear hWb; replace NZ := Lib.hid (keep_bel b NZ.out); replace NX := Lib.hid (keep_bel b NX.out); replace BX := Lib.hid (boxed_later BX.out b); replace RW := Lib.hid (RW.out.later b); replace H0 := Lib.hid (bel_trans H0.out b); replace CB := Lib.hid (bel_trans CB.out b); replace HS := Lib.hid (Nat.le_trans HS.out b.size); clear c5 b; have c5 := BX.out.cell
        refine hK.out _ _ ?_ (fun hHeld => ?_)
        · exact ⟨NZ.out, NX.out⟩
        clear HHeld; have HHeld := Lib.hid hHeld; clear hHeld
        clear hK K
        try simp only [pu, pn, s1, s2, s3]
        refine wpAnyH_ready (rs := [7]) (by kernel_rfl) (by simp) ?_
        refine AllReadyH.cons (o := { dst := some 21, op := Op.call { callee := Callee.builtin Builtin.append, args := #[Operand.tmp 14, Operand.tmp 20], argTypes := #[24, 24] }, type := 24, pos := "inner.go:75", after := #[{ on := 0, ground := Ground.data }, { on := 6, ground := Ground.data }, { on := 5, ground := Ground.chain }], guard := none }) rfl (fun K hK => ?_) AllReadyH.nil
        refine RE.step_put EI _ rfl (.tmp 14) (.tmp 20) rfl (base := w.heap.size + 2 + 1) A' q c' (ws.take q) (some ⟨w100.heap.size, 0, none⟩) 1 1 [v] (by simp [Act.eval, Act.put]) (by simp [Act.eval, Act.put]) RW.out HKT.out HK9.out HS.out rfl (by omega) RL.out ?_
        intro A2 c2 w3 r1 r2 r3
        have R1 := Lib.hid r1; have R2 := Lib.hid r2; have R3 := Lib.hid r3; have bx3 := boxed_chg BX.out (chg_of_grown r2) (fun e => by have := (RW.out.fp_lt e).1; omega); have BX3 := Lib.hid bx3; clear c5; have c5 := bx3.cell; have f5 := bx3.frozen; replace NZ := Lib.hid (keep_chg (chg_of_grown r2) NZ.out (fun e => by have := (RW.out.fp_lt e).1; omega)); replace NX := Lib.hid (keep_chg (chg_of_grown r2) NX.out (fun e => by have h1 := HROW.out _ e; omega)); clear bx3 r1 r2 r3
        refine hK.out _ _ ?_ (fun hHeld => ?_)
        · exact ⟨NZ.out, NX.out⟩
        clear HHeld; have HHeld := Lib.hid hHeld; clear hHeld
        clear hK K
        try simp only [pu, pn, s1, s2, s3]
        refine wpAnyH_ready (rs := [8]) (by kernel_rfl) (by simp) ?_
        refine AllReadyH.cons (o := { dst := none, op := Op.store 24 (Operand.tmp 5) (Operand.tmp 21), type := 0, pos := "inner.go:75", after := #[{ on := 7, ground := Ground.data }, { on := 7, ground := Ground.chain }, { on := 0, ground := Ground.phase }, { on := 1, ground := Ground.phase }, { on := 2, ground := Ground.phase }, { on := 3, ground := Ground.phase }, { on := 4, ground := Ground.phase }, { on := 5, ground := Ground.phase }, { on := 6, ground := Ground.phase }, { on := 7, ground := Ground.phase }], guard := none }) rfl (fun K hK => ?_) AllReadyH.nil
        go_simp
        generalize hW4 : World.setCell _ _ _ = w4
        have HC4 := Lib.hid (show Chg (fun g => g = w.heap.size + 2) w3 w4 by rw [← hW4]; exact Chg.set (D := fun g => g = w.heap.size + 2) w3 _ rfl)
        have BX4 := Lib.hid (show Boxed w4 (w.heap.size + 2) 24 (.slice A2 (q + 1) c2) by rw [← hW4]; exact BX3.out.set _)
        clear hW4; replace NZ := Lib.hid (keep_chg HC4.out NZ.out (by omega)); replace NX := Lib.hid (keep_chg HC4.out NX.out (by have := HUS.out; omega))
        have HFIN := Lib.hid (wt_fin (bs := w.heap.size + 2) (xs := ws) HNX.out CB.out RW.out R1.out R2.out R3.out HC4.out BX4.out)
        refine hK.out _ _ ?_ (fun hHeld => ?_)
        · exact ⟨NZ.out, NX.out⟩
        clear HHeld; have HHeld := Lib.hid hHeld; clear hHeld
        clear hK K
        try simp only [pu, pn, s1, s2, s3]
        refine wpAnyH_done (by kernel_rfl) ?_ _
        clear HHeld
        refine calm_normal ?_
        first | exact HFIN.out | (gi_wp2; exact HFIN.out)
      · go_simp
        go_at_call 78
        with_reducible refine (FB.out Af cf _ RF.out).mono ?_
        rintro e w100 ⟨rfl, b⟩
        replace NZ := Lib.hid (keep_bel b NZ.out); replace NX := Lib.hid (keep_bel b NX.out); replace BX := Lib.hid (boxed_later BX.out b); replace RW := Lib.hid (RW.out.later b); replace H0 := Lib.hid (bel_trans H0.out b); replace CB := Lib.hid (bel_trans CB.out b); replace HS := Lib.hid (Nat.le_trans HS.out b.size); clear c5 b; have c5 := BX.out.cell
        refine hK.out _ _ ?_ (fun hHeld => ?_)
        · exact ⟨NZ.out, NX.out⟩
        clear HHeld; have HHeld := Lib.hid hHeld; clear hHeld
        clear hK K
        try simp only [pu, pn, s1, s2, s3]
        refine wpAnyH_ready (rs := [0, 6]) (by kernel_rfl) (by simp) ?_
        refine AllReadyH.cons (o := { dst := some 14, op := Op.load 24 (Operand.tmp 5), type := 24, pos := "inner.go:75", after := #[], guard := none }) rfl (fun K hK => ?_) (AllReadyH.cons (o := { dst := some 20, op := Op.buildSlice 24 1 #[(0, Operand.tmp 19)], type := 24, pos := "inner.go:75", after := #[{ on := 5, ground := Ground.data }], guard := none }) rfl (fun K hK => ?_) AllReadyH.nil)
        · go_simp
          refine hK.out _ _ ?_ (fun hHeld => ?_)
          · exact ⟨NZ.out, NX.out⟩
          clear HHeld; have HHeld := Lib.hid hHeld; clear hHeld
          clear hK K
          try simp only [pu, pn, s1, s2, s3]
          refine wpAnyH_ready (rs := [6]) (by kernel_rfl) (by simp) ?_
          refine AllReadyH.cons (o := { dst := some 20, op := Op.buildSlice 24 1 #[(0, Operand.tmp 19)], type := 24, pos := "inner.go:75", after := #[{ on := 5, ground := Ground.data }], guard := none }) rfl (fun K hK => ?_) AllReadyH.nil
          go_simp
          generalize hWb : World.alloc w100 _ = wb
          have b : Below w100.heap.size w100 wb := by rw [← hWb]; exact alb _ _
          have RL := Lib.hid (show EI.Rd wb (some ⟨w100.heap.size, 0, none⟩) [v] by rw [← hWb]; exact RE.Rd.lit (E := EI) w100 3 [v] #[.int .i64 v] rfl)
          clear hWb; replace NZ := Lib.hid (keep_bel b NZ.out); replace NX := Lib.hid (keep_bel b NX.out); replace BX := Lib.hid (boxed_later BX.out b); replace RW := Lib.hid (RW.out.later b); replace H0 := Lib.hid (bel_trans H0.out b); replace CB := Lib.hid (bel_trans CB.out b); replace HS := Lib.hid (Nat.le_trans HS.out b.size); clear c5 b; have c5 := BX.out.cell
          refine hK.out _ _ ?_ (fun hHeld => ?_)
          · exact ⟨NZ.out, NX.out⟩
          clear HHeld; have HHeld := Lib.hid hHeld; clear hHeld
          clear hK K
          try simp only [pu, pn, s1, s2, s3]
          refine wpAnyH_ready (rs := [7]) (by kernel_rfl) (by simp) ?_
          refine AllReadyH.cons (o := { dst := some 21, op := Op.call { callee := Callee.builtin Builtin.append, args := #[Operand.tmp 14, Operand.tmp 20], argTypes := #[24, 24] }, type := 24, pos := "inner.go:75", after := #[{ on := 0, ground := Ground.data }, { on := 6, ground := Ground.data }, { on := 5, ground := Ground.chain }], guard := none }) rfl (fun K hK => ?_) AllReadyH.nil
          refine RE.step_put EI _ rfl (.tmp 14) (.tmp 20) rfl (base := w.heap.size + 2 + 1) A' q c' (ws.take q) (some ⟨w100.heap.size, 0, none⟩) 1 1 [v] (by simp [Act.eval, Act.put]) (by simp [Act.eval, Act.put]) RW.out HKT.out HK9.out HS.out rfl (by omega) RL.out ?_
          intro A2 c2 w3 r1 r2 r3
          have R1 := Lib.hid r1; have R2 := Lib.hid r2; have R3 := Lib.hid r3; have bx3 := boxed_chg BX.out (chg_of_grown r2) (fun e => by have := (RW.out.fp_lt e).1; omega); have BX3 := Lib.hid bx3; clear c5; have c5 := bx3.cell; have f5 := bx3.frozen; replace NZ := Lib.hid (keep_chg (chg_of_grown r2) NZ.out (fun e => by have := (RW.out.fp_lt e).1; omega)); replace NX := Lib.hid (keep_chg (chg_of_grown r2) NX.out (fun e => by have h1 := HROW.out _ e; omega)); clear bx3 r1 r2 r3
          refine hK.out _ _ ?_ (fun hHeld => ?_)
          · exact ⟨NZ.out, NX.out⟩
          clear HHeld; have HHeld := Lib.hid hHeld; clear hHeld
          clear hK K
          try simp only [pu, pn, s1, s2, s3]
          refine wpAnyH_ready (rs := [8]) (by kernel_rfl) (by simp) ?_
          refine AllReadyH.cons (o := { dst := none, op := Op.store 24 (Operand.tmp 5) (Operand.tmp 21), type := 0, pos := "inner.go:75", after := #[{ on := 7, ground := Ground.data }, { on := 7, ground := Ground.chain }, { on := 0, ground := Ground.phase }, { on := 1, ground := Ground.phase }, { on := 2, ground := Ground.phase }, { on := 3, ground := Ground.phase }, { on := 4, ground := Ground.phase }, { on := 5, ground := Ground.phase }, { on := 6, ground := Ground.phase }, { on := 7, ground := Ground.phase }], guard := none }) rfl (fun K hK => ?_) AllReadyH.nil
          go_simp
          generalize hW4 : World.setCell _ _ _ = w4
          have HC4 := Lib.hid (show Chg (fun g => g = w.heap.size + 2) w3 w4 by rw [← hW4]; exact Chg.set (D := fun g => g = w.heap.size + 2) w3 _ rfl)
          have BX4 := Lib.hid (show Boxed w4 (w.heap.size + 2) 24 (.slice A2 (q + 1) c2) by rw [← hW4]; exact BX3.out.set _)
          clear hW4; replace NZ := Lib.hid (keep_chg HC4.out NZ.out (by omega)); replace NX := Lib.hid (keep_chg HC4.out NX.out (by have := HUS.out; omega))
          have HFIN := Lib.hid (wt_fin (bs := w.heap.size + 2) (xs := ws) HNX.out CB.out RW.out R1.out R2.out R3.out HC4.out BX4.out)
          refine hK.out _ _ ?_ (fun hHeld => ?_)
          · exact ⟨NZ.out, NX.out⟩
          clear HHeld; have HHeld := Lib.hid hHeld; clear hHeld
          clear hK K
          try simp only [pu, pn, s1, s2, s3]
          refine wpAnyH_done (by kernel_rfl) ?_ _
          clear HHeld
          refine calm_normal ?_
          first | exact HFIN.out | (gi_wp2; exact HFIN.out)
        · go_simp
          generalize hWb : World.alloc w100 _ = wb
          have b : Below w100.heap.size w100 wb := by rw [← hWb]; exact alb _ _
          have RL := Lib.hid (show EI.Rd wb (some ⟨w100.heap.size, 0, none⟩) [v] by rw [← hWb]; exact RE.Rd.lit (E := EI) w100 3 [v] #[.int .i64 v] rfl)
          clear hWb; replace NZ := Lib.hid (keep_bel b NZ.out); replace NX := Lib.hid (keep_bel b NX.out); replace BX := Lib.hid (boxed_later BX.out b); replace RW := Lib.hid (RW.out.later b); replace H0 := Lib.hid (bel_trans H0.out b); replace CB := Lib.hid (bel_trans CB.out b); replace HS := Lib.hid (Nat.le_trans HS.out b.size); clear c5 b; have c5 := BX.out.cell
          refine hK.out _ _ ?_ (fun hHeld => ?_)
          · exact ⟨NZ.out, NX.out⟩
          clear HHeld; have HHeld := Lib.hid hHeld; clear hHeld
          clear hK K
          try simp only [pu, pn, s1, s2, s3]
          refine wpAnyH_ready (rs := [0]) (by kernel_rfl) (by simp) ?_
          refine AllReadyH.cons (o := { dst := some 14, op := Op.load 24 (Operand.tmp 5), type := 24, pos := "inner.go:75", after := #[], guard := none }) rfl (fun K hK => ?_) AllReadyH.nil
          go_simp
          refine hK.out _ _ ?_ (fun hHeld => ?_)
          · exact ⟨NZ.out, NX.out⟩
          clear HHeld; have HHeld := Lib.hid hHeld; clear hHeld
          clear hK K
          try simp only [pu, pn, s1, s2, s3]
          refine wpAnyH_ready (rs := [7]) (by kernel_rfl) (by simp) ?_
          refine AllReadyH.cons (o := { dst := some 21, op := Op.call { callee := Callee.builtin Builtin.append, args := #[Operand.tmp 14, Operand.tmp 20], argTypes := #[24, 24] }, type := 24, pos := "inner.go:75", after := #[{ on := 0, ground := Ground.data }, { on := 6, ground := Ground.data }, { on := 5, ground := Ground.chain }], guard := none }) rfl (fun K hK => ?_) AllReadyH.nil
          refine RE.step_put EI _ rfl (.tmp 14) (.tmp 20) rfl (base := w.heap.size + 2 + 1) A' q c' (ws.take q) (some ⟨w100.heap.size, 0, none⟩) 1 1 [v] (by simp [Act.eval, Act.put]) (by simp [Act.eval, Act.put]) RW.out HKT.out HK9.out HS.out rfl (by omega) RL.out ?_
          intro A2 c2 w3 r1 r2 r3
          have R1 := Lib.hid r1; have R2 := Lib.hid r2; have R3 := Lib.hid r3; have bx3 := boxed_chg BX.out (chg_of_grown r2) (fun e => by have := (RW.out.fp_lt e).1; omega); have BX3 := Lib.hid bx3; clear c5; have c5 := bx3.cell; have f5 := bx3.frozen; replace NZ := Lib.hid (keep_chg (chg_of_grown r2) NZ.out (fun e => by have := (RW.out.fp_lt e).1; omega)); replace NX := Lib.hid (keep_chg (chg_of_grown r2) NX.out (fun e => by have h1 := HROW.out _ e; omega)); clear bx3 r1 r2 r3
          refine hK.out _ _ ?_ (fun hHeld => ?_)
          · exact ⟨NZ.out, NX.out⟩
          clear HHeld; have HHeld := Lib.hid hHeld; clear hHeld
          clear hK K
          try simp only [pu, pn, s1, s2, s3]
          refine wpAnyH_ready (rs := [8]) (by kernel_rfl) (by simp) ?_
          refine AllReadyH.cons (o := { dst := none, op := Op.store 24 (Operand.tmp 5) (Operand.tmp 21), type := 0, pos := "inner.go:75", after := #[{ on := 7, ground := Ground.data }, { on := 7, ground := Ground.chain }, { on := 0, ground := Ground.phase }, { on := 1, ground := Ground.phase }, { on := 2, ground := Ground.phase }, { on := 3, ground := Ground.phase }, { on := 4, ground := Ground.phase }, { on := 5, ground := Ground.phase }, { on := 6, ground := Ground.phase }, { on := 7, ground := Ground.phase }], guard := none }) rfl (fun K hK => ?_) AllReadyH.nil
          go_simp
          generalize hW4 : World.setCell _ _ _ = w4
          have HC4 := Lib.hid (show Chg (fun g => g = w.heap.size + 2) w3 w4 by rw [← hW4]; exact Chg.set (D := fun g => g = w.heap.size + 2) w3 _ rfl)
          have BX4 := Lib.hid (show Boxed w4 (w.heap.size + 2) 24 (.slice A2 (q + 1) c2) by rw [← hW4]; exact BX3.out.set _)
          clear hW4; replace NZ := Lib.hid (keep_chg HC4.out NZ.out (by omega)); replace NX := Lib.hid (keep_chg HC4.out NX.out (by have := HUS.out; omega))
          have HFIN := Lib.hid (wt_fin (bs := w.heap.size + 2) (xs := ws) HNX.out CB.out RW.out R1.out R2.out R3.out HC4.out BX4.out)
          refine hK.out _ _ ?_ (fun hHeld => ?_)
          · exact ⟨NZ.out, NX.out⟩
          clear HHeld; have HHeld := Lib.hid hHeld; clear hHeld
          clear hK K
          try simp only [pu, pn, s1, s2, s3]
          refine wpAnyH_done (by kernel_rfl) ?_ _
          clear HHeld
          refine calm_normal ?_
          first | exact HFIN.out | (gi_wp2; exact HFIN.out)

  · rintro B0 D U hB hD hgr hch ⟨A', c', rfl, hbx, hrow⟩ hK
    have hb3 := hbx.cell
    rw [← HWL.out, List.take_length] at hrow
    have bU : Below w.heap.size w U := HB.out.trans (hch.below (fun g (e : g = _) => by omega) HB.out.size)
    have cP : Chg (fun g => g = B0) U (U.putObj B0 (.deferred none)) := Chg.put (D := fun g => g = B0) _ _ rfl
    have hBs : w.heap.size + 3 ≤ B0 := by have := HS0.out; omega
    have HRW : Hid (EI.Row (U.putObj B0 (.deferred none)) w.heap.size A' ws c') := Lib.hid (row_chg (hrow.base (by omega)) cP (fun g e h => hD (.inr (by rw [← show g = B0 from h]; exact e))))
    have HBL : Hid (Below w.heap.size w (U.putObj B0 (.deferred none))) := Lib.hid (bU.trans (cP.below (fun g (hg : g = B0) => by omega) bU.size))
    have HKD := Lib.hid hK
    clear hgr hch hbx hrow hK bU cP hBs hD hB
    gi_wp2
    exact ⟨by simp, .inl ⟨_, _, rfl, run_takeDeferred HKD.out, .slice A' ws.length c', by simp [results, Tryz.results46, go_sem, HWL.out], A', c', rfl, HRW.out, HBL.out⟩⟩
  · rintro B0 c k D W _ _ _ _ _ h _
    exact h.elim
end Go.Proofs.YtilnpeekajnlhaaGreat
