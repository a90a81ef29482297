/- What a range has of a message: of one that clears; whole. -/
import Derived.Test.YtilnpeekajnlhaaGreatTh02
import Derived.Test.YtilnpeekajnlhaaGreatTh03
set_option linter.unusedVariables false
set_option linter.unusedSimpArgs false
namespace Go.Proofs.YtilnpeekajnlhaaGreat
open Go.RowKit Go.Maps
theorem two_set {W : World} {g : Nat} {x y : ByteArray} (z : W.heap[g]? = some (rgc x y)) (a b : ByteArray) : ((W.setCell ⟨g, 0, none⟩ (.string a)).setCell ⟨g, 1, none⟩ (.string b)).heap[g]? = some (rgc a b) := by
  simp [World.setCell, Array.getElem?_modify, z]
set_option maxRecDepth 100000 in
set_option maxHeartbeats 8000000 in
theorem clip_cl (m : MG) (ho : m.Ok) (a b : ByteArray) (w : World) (hp : isPt m.kd = false) (h4 : (m.kd == 4) = true) :
    Calls Tryz.prog 76 #[MV m, .agg #[.string a, .string b]] w fun r w' => r = .returned (CV (clipM m a b)) ∧ Below w.heap.size w w' := by
  obtain ⟨m0, m1, mk, hm⟩ : ∃ m0 m1 mk, meetF m.ky m.to a b = (m0, m1, mk) := ⟨_, _, _, rfl⟩
  have HC : Hid (clipM m a b = if mk then (overM m m0 m1, true) else (zM, false)) := Lib.hid (by unfold clipM; rw [hp, h4, hm]; rfl)
  have AM := Lib.hid (meet_any m.ky m.to a b)
  rw [hm] at AM
  have HF1 : spF m = m.ky := by unfold spF; rw [hp, h4]; rfl
  have HT1 : spT m = m.to := by unfold spT; rw [hp, h4]; rfl
  have hs : SV m = .agg #[.string m.ky, .string m.to] := by show Value.agg #[.string (spF m), .string (spT m)] = _; rw [HF1, HT1]
  have AS : Hid (∀ W : World, Calls Tryz.prog 59 #[MV m] W fun r w' => r = .returned (.agg #[.string m.ky, .string m.to]) ∧ Below W.heap.size W w') := Lib.hid (fun W => (span_any m ho W).mono (fun r w' h => ⟨h.1.trans (congrArg _ hs), h.2⟩))
  clear hs
  have H0 := Lib.hid (bel_alloc (bel_alloc (alb w (MO m)) (rgc a b)) (MO zM))
  have q := three_new w (MO m) (rgc a b) (MO zM)
  have Z := Lib.hid (C3.mk q.1 q.2.1 q.2.2)
  clear q HF1 HT1 hm ho
  obtain ⟨c0, c1, c2, c3, c4, c5⟩ := cells6 Z.out.ha
  go_enter Tryz.func76, Tryz.ntmps76
  go_wp2_with (first
    | (go_at_call 60; ((with_reducible refine (isp_any m _).mono ?_); rintro e w1 ⟨rfl, b1⟩; rw [hp]; replace Z := Lib.hid (Z.out.later b1); replace H0 := Lib.hid (bel_trans H0.out b1); clear b1 c0 c1 c2 c3 c4 c5; obtain ⟨c0, c1, c2, c3, c4, c5⟩ := cells6 Z.out.ha))
    | fail)
  have D0 := Lib.hid c0; have D1 := Lib.hid c1; have D2 := Lib.hid c2; have D3 := Lib.hid c3; have D4 := Lib.hid c4; have D5 := Lib.hid c5
  have E0 := Lib.hid (has_two Z.out.hb).1
  have E1 := Lib.hid (has_two Z.out.hb).2.1
  clear c0 c1 c2 c3 c4 c5
  cases mk
  · have HM := Lib.hid (show (if false = true then (overM m m0 m1, true) else (zM, false)) = (zM, false) from rfl)
    refine wp_region_held_drew (S := (fun V : World => Below w1.heap.size w1 V)) (by kernel_rfl) ?_ (fun hHeld => ?_)
    · exact (Below.refl _ _).drew
    have HHeld := Lib.hid hHeld; clear hHeld
    refine wT (i := 0) (oi := { dst := some 27, op := Op.load 50 (Operand.tmp 2), type := 50, pos := "msg.go:119", after := #[], guard := none }) (v := (.agg #[.int .u8 m.kd, .int .i64 m.sq, .string m.ky, .string m.to, .string m.vl, .int .u64 m.dl] : Value)) rfl (Or.inl ⟨by rfl, ?_⟩) HHeld.out ?_
    · intro V hV; have hc0 := bel_later hV D0.out; have hc1 := bel_later hV D1.out; have hc2 := bel_later hV D2.out; have hc3 := bel_later hV D3.out; have hc4 := bel_later hV D4.out; have hc5 := bel_later hV D5.out; clear hV; go_simp
    try simp only [pu, pn, s1, s2, s3]
    refine wT (i := 2) (oi := { dst := some 29, op := Op.load 30 (Operand.tmp 3), type := 30, pos := "msg.go:119", after := #[], guard := none }) (v := (.agg #[.string a, .string b] : Value)) rfl (Or.inl ⟨by rfl, ?_⟩) HHeld.out ?_
    · intro V hV; have hc0 := bel_later hV E0.out; have hc1 := bel_later hV E1.out; clear hV; go_simp
    try simp only [pu, pn, s1, s2, s3]
    refine wpAnyH_ready (rs := [1, 7]) (by kernel_rfl) (by simp) ?_
    refine AllReadyH.cons (o := { dst := some 28, op := Op.call { callee := Callee.value (Operand.func 59), args := #[Operand.tmp 27], argTypes := #[50] }, type := 30, pos := "msg.go:119", after := #[{ on := 0, ground := Ground.data }], guard := none }) rfl (fun K hK => ?_) (AllReadyH.cons (o := { dst := some 6, op := Op.alloc 30, type := 0, pos := "msg.go:119", after := #[], guard := none }) rfl (fun K hK => ?_) AllReadyH.nil)
    · go_simp
      go_at_call 59; (refine (AS.out _).mono ?_); rintro e v1 ⟨rfl, cc⟩; have C1' := Lib.hid (bel_trans HHeld.out cc); clear cc
      refine hK.out _ _ ?_ (fun hHeld => ?_)
      · exact C1'.out
      clear HHeld; have HHeld := Lib.hid hHeld; clear hHeld
      clear hK K
      try simp only [pu, pn, s1, s2, s3]
      refine wpAnyH_ready (rs := [3, 7]) (by kernel_rfl) (by simp) ?_
      refine AllReadyH.cons (o := { dst := some 30, op := Op.call { callee := Callee.value (Operand.func 88), args := #[Operand.tmp 28, Operand.tmp 29], argTypes := #[30, 30] }, type := 76, pos := "msg.go:119", after := #[{ on := 1, ground := Ground.data }, { on := 2, ground := Ground.data }, { on := 1, ground := Ground.chain }], guard := none }) rfl (fun K hK => ?_) (AllReadyH.cons (o := { dst := some 6, op := Op.alloc 30, type := 0, pos := "msg.go:119", after := #[], guard := none }) rfl (fun K hK => ?_) AllReadyH.nil)
      · go_simp
        go_at_call 88; (refine (AM.out _).mono ?_); rintro e v3 ⟨rfl, cc⟩; have C3' := Lib.hid (bel_trans HHeld.out cc); clear cc
        refine hK.out _ _ ?_ (fun hHeld => ?_)
        · exact C3'.out
        clear HHeld; have HHeld := Lib.hid hHeld; clear hHeld
        clear hK K
        try simp only [pu, pn, s1, s2, s3]
        refine wT (i := 4) (oi := { dst := some 26, op := Op.move (Operand.tmp 30), type := 76, pos := "msg.go:119", after := #[{ on := 3, ground := Ground.data }], guard := none }) (v := ?_) rfl (Or.inl ⟨by rfl, ?_⟩) HHeld.out ?_
        rotate_left
        · intro w hSw; clear hSw; go_simp; try with_reducible rfl
        try simp only [pu, pn, s1, s2, s3]
        refine wT (i := 5) (oi := { dst := some 31, op := Op.extract (Operand.tmp 26) 0, type := 30, pos := "msg.go:119", after := #[{ on := 4, ground := Ground.data }], guard := none }) (v := ?_) rfl (Or.inl ⟨by rfl, ?_⟩) HHeld.out ?_
        rotate_left
        · intro w hSw; clear hSw; go_simp; try with_reducible rfl
        try simp only [pu, pn, s1, s2, s3]
        refine wT (i := 6) (oi := { dst := some 32, op := Op.extract (Operand.tmp 26) 1, type := 4, pos := "msg.go:119", after := #[{ on := 4, ground := Ground.data }, { on := 8, ground := Ground.gcOnly Departure.lateStores }], guard := none }) (v := ?_) rfl (Or.inl ⟨by rfl, ?_⟩) HHeld.out ?_
        rotate_left
        · intro w hSw; clear hSw; go_simp; try with_reducible rfl
        try simp only [pu, pn, s1, s2, s3]
        refine wpAnyH_ready (rs := [7]) (by kernel_rfl) (by simp) ?_
        refine AllReadyH.cons (o := { dst := some 6, op := Op.alloc 30, type := 0, pos := "msg.go:119", after := #[], guard := none }) rfl (fun K hK => ?_) AllReadyH.nil
        have ZZ := Lib.hid (heap_alloc_new v3 (rgc emptyS emptyS))
        have LE := Lib.hid (HHeld.out.size)
        have CA := Lib.hid (bel_alloc HHeld.out (rgc emptyS emptyS))
        go_simp
        refine hK.out _ _ ?_ (fun hHeld => ?_)
        · exact CA.out
        clear HHeld; have HHeld := Lib.hid hHeld; clear hHeld
        clear hK K
        try simp only [pu, pn, s1, s2, s3]
        refine wpAnyH_ready (rs := [8]) (by kernel_rfl) (by simp) ?_
        refine AllReadyH.cons (o := { dst := none, op := Op.store 30 (Operand.tmp 6) (Operand.tmp 31), type := 0, pos := "msg.go:119", after := #[{ on := 7, ground := Ground.data }, { on := 5, ground := Ground.data }, { on := 3, ground := Ground.chain }, { on := 0, ground := Ground.phase }, { on := 1, ground := Ground.phase }, { on := 2, ground := Ground.phase }, { on := 3, ground := Ground.phase }, { on := 4, ground := Ground.phase }, { on := 5, ground := Ground.phase }, { on := 6, ground := Ground.textOnly Departure.lateStores }, { on := 7, ground := Ground.phase }], guard := none }) rfl (fun K hK => ?_) AllReadyH.nil
        obtain ⟨f0, f1, f2, f3⟩ := has_two ZZ.out
        have CS := Lib.hid HHeld.out
        go_simp
        clear f0 f1 f2 f3
        refine hK.out _ _ ?_ (fun hHeld => ?_)
        · first | exact bel_alloc C3'.out _ | exact Below.setCell (Below.setCell CS.out (p := ⟨_, _, none⟩) LE.out _) (p := ⟨_, _, none⟩) LE.out _
        clear HHeld; have HHeld := Lib.hid hHeld; clear hHeld
        clear hK K
        try simp only [pu, pn, s1, s2, s3]
        refine wT (i := 9) (oi := { dst := some 7, op := Op.assign (Operand.tmp 32), type := 4, pos := "msg.go:119", after := #[{ on := 6, ground := Ground.data }, { on := 8, ground := Ground.chain }, { on := 0, ground := Ground.phase }, { on := 1, ground := Ground.phase }, { on := 2, ground := Ground.phase }, { on := 3, ground := Ground.phase }, { on := 4, ground := Ground.phase }, { on := 5, ground := Ground.phase }, { on := 6, ground := Ground.phase }, { on := 7, ground := Ground.phase }, { on := 8, ground := Ground.phase }], guard := none }) (v := ?_) rfl (Or.inl ⟨by rfl, ?_⟩) HHeld.out ?_
        rotate_left
        · intro w hSw; clear hSw; go_simp; try with_reducible rfl
        try simp only [pu, pn, s1, s2, s3]
        refine wpAnyH_done (by kernel_rfl) ?_ _
        have HF := Lib.hid HHeld.out
        clear HHeld
        refine at_exit (fun WF hWF => ?_)
        have BF := Lib.hid (show Below w1.heap.size w1 WF by rw [hWF]; exact HF.out)
        have ZB := Lib.hid (show WF.heap[v3.heap.size]? = some (rgc m0 m1) by rw [hWF]; first | exact heap_alloc_new _ _ | exact two_set ZZ.out _ _)
        clear hWF HF ZZ
        replace Z := Lib.hid (Z.out.later BF.out)
        replace H0 := Lib.hid (bel_trans H0.out BF.out)
        obtain ⟨f0, f1, f2, f3, f4, f5⟩ := mo_frozen6 Z.out.hc
        obtain ⟨k0, k1, k2, k3, k4, k5⟩ := cells6 Z.out.hc
        go_wp2
        refine bodyPost_ret (v := CV (zM, false)) (by simp [results, Tryz.results76, go_sem, k0, k1, k2, k3, k4, k5]) rfl ⟨by rw [HC.out, HM.out], ?_⟩
        exact bel6 H0.out (by omega) _ _ _ _ _ _
      · have ZZ := Lib.hid (heap_alloc_new v1 (rgc emptyS emptyS))
        have LE := Lib.hid (HHeld.out.size)
        have CA := Lib.hid (bel_alloc HHeld.out (rgc emptyS emptyS))
        go_simp
        refine hK.out _ _ ?_ (fun hHeld => ?_)
        · exact CA.out
        clear HHeld; have HHeld := Lib.hid hHeld; clear hHeld
        clear hK K
        try simp only [pu, pn, s1, s2, s3]
        refine wpAnyH_ready (rs := [3]) (by kernel_rfl) (by simp) ?_
        refine AllReadyH.cons (o := { dst := some 30, op := Op.call { callee := Callee.value (Operand.func 88), args := #[Operand.tmp 28, Operand.tmp 29], argTypes := #[30, 30] }, type := 76, pos := "msg.go:119", after := #[{ on := 1, ground := Ground.data }, { on := 2, ground := Ground.data }, { on := 1, ground := Ground.chain }], guard := none }) rfl (fun K hK => ?_) AllReadyH.nil
        go_simp
        go_at_call 88; (refine (AM.out _).mono ?_); rintro e v3 ⟨rfl, cc⟩; have C3' := Lib.hid (bel_trans HHeld.out cc); replace ZZ := Lib.hid (keep_bel cc ZZ.out); clear cc
        refine hK.out _ _ ?_ (fun hHeld => ?_)
        · exact C3'.out
        clear HHeld; have HHeld := Lib.hid hHeld; clear hHeld
        clear hK K
        try simp only [pu, pn, s1, s2, s3]
        refine wT (i := 4) (oi := { dst := some 26, op := Op.move (Operand.tmp 30), type := 76, pos := "msg.go:119", after := #[{ on := 3, ground := Ground.data }], guard := none }) (v := ?_) rfl (Or.inl ⟨by rfl, ?_⟩) HHeld.out ?_
        rotate_left
        · intro w hSw; clear hSw; go_simp; try with_reducible rfl
        try simp only [pu, pn, s1, s2, s3]
        refine wT (i := 5) (oi := { dst := some 31, op := Op.extract (Operand.tmp 26) 0, type := 30, pos := "msg.go:119", after := #[{ on := 4, ground := Ground.data }], guard := none }) (v := ?_) rfl (Or.inl ⟨by rfl, ?_⟩) HHeld.out ?_
        rotate_left
        · intro w hSw; clear hSw; go_simp; try with_reducible rfl
        try simp only [pu, pn, s1, s2, s3]
        refine wT (i := 6) (oi := { dst := some 32, op := Op.extract (Operand.tmp 26) 1, type := 4, pos := "msg.go:119", after := #[{ on := 4, ground := Ground.data }, { on := 8, ground := Ground.gcOnly Departure.lateStores }], guard := none }) (v := ?_) rfl (Or.inl ⟨by rfl, ?_⟩) HHeld.out ?_
        rotate_left
        · intro w hSw; clear hSw; go_simp; try with_reducible rfl
        try simp only [pu, pn, s1, s2, s3]
        refine wpAnyH_ready (rs := [8]) (by kernel_rfl) (by simp) ?_
        refine AllReadyH.cons (o := { dst := none, op := Op.store 30 (Operand.tmp 6) (Operand.tmp 31), type := 0, pos := "msg.go:119", after := #[{ on := 7, ground := Ground.data }, { on := 5, ground := Ground.data }, { on := 3, ground := Ground.chain }, { on := 0, ground := Ground.phase }, { on := 1, ground := Ground.phase }, { on := 2, ground := Ground.phase }, { on := 3, ground := Ground.phase }, { on := 4, ground := Ground.phase }, { on := 5, ground := Ground.phase }, { on := 6, ground := Ground.textOnly Departure.lateStores }, { on := 7, ground := Ground.phase }], guard := none }) rfl (fun K hK => ?_) AllReadyH.nil
        obtain ⟨f0, f1, f2, f3⟩ := has_two ZZ.out
        have CS := Lib.hid HHeld.out
        go_simp
        clear f0 f1 f2 f3
        refine hK.out _ _ ?_ (fun hHeld => ?_)
        · first | exact bel_alloc C3'.out _ | exact Below.setCell (Below.setCell CS.out (p := ⟨_, _, none⟩) LE.out _) (p := ⟨_, _, none⟩) LE.out _
        clear HHeld; have HHeld := Lib.hid hHeld; clear hHeld
        clear hK K
        try simp only [pu, pn, s1, s2, s3]
        refine wT (i := 9) (oi := { dst := some 7, op := Op.assign (Operand.tmp 32), type := 4, pos := "msg.go:119", after := #[{ on := 6, ground := Ground.data }, { on := 8, ground := Ground.chain }, { on := 0, ground := Ground.phase }, { on := 1, ground := Ground.phase }, { on := 2, ground := Ground.phase }, { on := 3, ground := Ground.phase }, { on := 4, ground := Ground.phase }, { on := 5, ground := Ground.phase }, { on := 6, ground := Ground.phase }, { on := 7, ground := Ground.phase }, { on := 8, ground := Ground.phase }], guard := none }) (v := ?_) rfl (Or.inl ⟨by rfl, ?_⟩) HHeld.out ?_
        rotate_left
        · intro w hSw; clear hSw; go_simp; try with_reducible rfl
        try simp only [pu, pn, s1, s2, s3]
        refine wpAnyH_done (by kernel_rfl) ?_ _
        have HF := Lib.hid HHeld.out
        clear HHeld
        refine at_exit (fun WF hWF => ?_)
        have BF := Lib.hid (show Below w1.heap.size w1 WF by rw [hWF]; exact HF.out)
        have ZB := Lib.hid (show WF.heap[v1.heap.size]? = some (rgc m0 m1) by rw [hWF]; first | exact heap_alloc_new _ _ | exact two_set ZZ.out _ _)
        clear hWF HF ZZ
        replace Z := Lib.hid (Z.out.later BF.out)
        replace H0 := Lib.hid (bel_trans H0.out BF.out)
        obtain ⟨f0, f1, f2, f3, f4, f5⟩ := mo_frozen6 Z.out.hc
        obtain ⟨k0, k1, k2, k3, k4, k5⟩ := cells6 Z.out.hc
        go_wp2
        refine bodyPost_ret (v := CV (zM, false)) (by simp [results, Tryz.results76, go_sem, k0, k1, k2, k3, k4, k5]) rfl ⟨by rw [HC.out, HM.out], ?_⟩
        exact bel6 H0.out (by omega) _ _ _ _ _ _
    · have ZZ := Lib.hid (show (w1.alloc (rgc emptyS emptyS)).drew.heap[w1.heap.size]? = some (rgc emptyS emptyS) from keep_bel ((Below.refl _ _).drew) (heap_alloc_new _ _))
      have LE := Lib.hid (HHeld.out.size)
      have CA := Lib.hid (bel_alloc HHeld.out (rgc emptyS emptyS))
      go_simp
      refine hK.out _ _ ?_ (fun hHeld => ?_)
      · exact CA.out
      clear HHeld; have HHeld := Lib.hid hHeld; clear hHeld
      clear hK K
      try simp only [pu, pn, s1, s2, s3]
      refine wpAnyH_ready (rs := [1]) (by kernel_rfl) (by simp) ?_
      refine AllReadyH.cons (o := { dst := some 28, op := Op.call { callee := Callee.value (Operand.func 59), args := #[Operand.tmp 27], argTypes := #[50] }, type := 30, pos := "msg.go:119", after := #[{ on := 0, ground := Ground.data }], guard := none }) rfl (fun K hK => ?_) AllReadyH.nil
      go_simp
      go_at_call 59; (refine (AS.out _).mono ?_); rintro e v1 ⟨rfl, cc⟩; have C1' := Lib.hid (bel_trans HHeld.out cc); replace ZZ := Lib.hid (keep_bel cc ZZ.out); clear cc
      refine hK.out _ _ ?_ (fun hHeld => ?_)
      · exact C1'.out
      clear HHeld; have HHeld := Lib.hid hHeld; clear hHeld
      clear hK K
      try simp only [pu, pn, s1, s2, s3]
      refine wpAnyH_ready (rs := [3]) (by kernel_rfl) (by simp) ?_
      refine AllReadyH.cons (o := { dst := some 30, op := Op.call { callee := Callee.value (Operand.func 88), args := #[Operand.tmp 28, Operand.tmp 29], argTypes := #[30, 30] }, type := 76, pos := "msg.go:119", after := #[{ on := 1, ground := Ground.data }, { on := 2, ground := Ground.data }, { on := 1, ground := Ground.chain }], guard := none }) rfl (fun K hK => ?_) AllReadyH.nil
      go_simp
      go_at_call 88; (refine (AM.out _).mono ?_); rintro e v3 ⟨rfl, cc⟩; have C3' := Lib.hid (bel_trans HHeld.out cc); replace ZZ := Lib.hid (keep_bel cc ZZ.out); clear cc
      refine hK.out _ _ ?_ (fun hHeld => ?_)
      · exact C3'.out
      clear HHeld; have HHeld := Lib.hid hHeld; clear hHeld
      clear hK K
      try simp only [pu, pn, s1, s2, s3]
      refine wT (i := 4) (oi := { dst := some 26, op := Op.move (Operand.tmp 30), type := 76, pos := "msg.go:119", after := #[{ on := 3, ground := Ground.data }], guard := none }) (v := ?_) rfl (Or.inl ⟨by rfl, ?_⟩) HHeld.out ?_
      rotate_left
      · intro w hSw; clear hSw; go_simp; try with_reducible rfl
      try simp only [pu, pn, s1, s2, s3]
      refine wT (i := 5) (oi := { dst := some 31, op := Op.extract (Operand.tmp 26) 0, type := 30, pos := "msg.go:119", after := #[{ on := 4, ground := Ground.data }], guard := none }) (v := ?_) rfl (Or.inl ⟨by rfl, ?_⟩) HHeld.out ?_
      rotate_left
      · intro w hSw; clear hSw; go_simp; try with_reducible rfl
      try simp only [pu, pn, s1, s2, s3]
      refine wT (i := 6) (oi := { dst := some 32, op := Op.extract (Operand.tmp 26) 1, type := 4, pos := "msg.go:119", after := #[{ on := 4, ground := Ground.data }, { on := 8, ground := Ground.gcOnly Departure.lateStores }], guard := none }) (v := ?_) rfl (Or.inl ⟨by rfl, ?_⟩) HHeld.out ?_
      rotate_left
      · intro w hSw; clear hSw; go_simp; try with_reducible rfl
      try simp only [pu, pn, s1, s2, s3]
      refine wpAnyH_ready (rs := [8]) (by kernel_rfl) (by simp) ?_
      refine AllReadyH.cons (o := { dst := none, op := Op.store 30 (Operand.tmp 6) (Operand.tmp 31), type := 0, pos := "msg.go:119", after := #[{ on := 7, ground := Ground.data }, { on := 5, ground := Ground.data }, { on := 3, ground := Ground.chain }, { on := 0, ground := Ground.phase }, { on := 1, ground := Ground.phase }, { on := 2, ground := Ground.phase }, { on := 3, ground := Ground.phase }, { on := 4, ground := Ground.phase }, { on := 5, ground := Ground.phase }, { on := 6, ground := Ground.textOnly Departure.lateStores }, { on := 7, ground := Ground.phase }], guard := none }) rfl (fun K hK => ?_) AllReadyH.nil
      obtain ⟨f0, f1, f2, f3⟩ := has_two ZZ.out
      have CS := Lib.hid HHeld.out
      go_simp
      clear f0 f1 f2 f3
      refine hK.out _ _ ?_ (fun hHeld => ?_)
      · first | exact bel_alloc C3'.out _ | exact Below.setCell (Below.setCell CS.out (p := ⟨_, _, none⟩) LE.out _) (p := ⟨_, _, none⟩) LE.out _
      clear HHeld; have HHeld := Lib.hid hHeld; clear hHeld
      clear hK K
      try simp only [pu, pn, s1, s2, s3]
      refine wT (i := 9) (oi := { dst := some 7, op := Op.assign (Operand.tmp 32), type := 4, pos := "msg.go:119", after := #[{ on := 6, ground := Ground.data }, { on := 8, ground := Ground.chain }, { on := 0, ground := Ground.phase }, { on := 1, ground := Ground.phase }, { on := 2, ground := Ground.phase }, { on := 3, ground := Ground.phase }, { on := 4, ground := Ground.phase }, { on := 5, ground := Ground.phase }, { on := 6, ground := Ground.phase }, { on := 7, ground := Ground.phase }, { on := 8, ground := Ground.phase }], guard := none }) (v := ?_) rfl (Or.inl ⟨by rfl, ?_⟩) HHeld.out ?_
      rotate_left
      · intro w hSw; clear hSw; go_simp; try with_reducible rfl
      try simp only [pu, pn, s1, s2, s3]
      refine wpAnyH_done (by kernel_rfl) ?_ _
      have HF := Lib.hid HHeld.out
      clear HHeld
      refine at_exit (fun WF hWF => ?_)
      have BF := Lib.hid (show Below w1.heap.size w1 WF by rw [hWF]; exact HF.out)
      have ZB := Lib.hid (show WF.heap[w1.heap.size]? = some (rgc m0 m1) by rw [hWF]; first | exact heap_alloc_new _ _ | exact two_set ZZ.out _ _)
      clear hWF HF ZZ
      replace Z := Lib.hid (Z.out.later BF.out)
      replace H0 := Lib.hid (bel_trans H0.out BF.out)
      obtain ⟨f0, f1, f2, f3, f4, f5⟩ := mo_frozen6 Z.out.hc
      obtain ⟨k0, k1, k2, k3, k4, k5⟩ := cells6 Z.out.hc
      go_wp2
      refine bodyPost_ret (v := CV (zM, false)) (by simp [results, Tryz.results76, go_sem, k0, k1, k2, k3, k4, k5]) rfl ⟨by rw [HC.out, HM.out], ?_⟩
      exact bel6 H0.out (by omega) _ _ _ _ _ _
  · have HM := Lib.hid (show (if true = true then (overM m m0 m1, true) else (zM, false)) = (overM m m0 m1, true) from rfl)
    refine wp_region_held_drew (S := (fun V : World => Below w1.heap.size w1 V)) (by kernel_rfl) ?_ (fun hHeld => ?_)
    · exact (Below.refl _ _).drew
    have HHeld := Lib.hid hHeld; clear hHeld
    refine wT (i := 0) (oi := { dst := some 27, op := Op.load 50 (Operand.tmp 2), type := 50, pos := "msg.go:119", after := #[], guard := none }) (v := (.agg #[.int .u8 m.kd, .int .i64 m.sq, .string m.ky, .string m.to, .string m.vl, .int .u64 m.dl] : Value)) rfl (Or.inl ⟨by rfl, ?_⟩) HHeld.out ?_
    · intro V hV; have hc0 := bel_later hV D0.out; have hc1 := bel_later hV D1.out; have hc2 := bel_later hV D2.out; have hc3 := bel_later hV D3.out; have hc4 := bel_later hV D4.out; have hc5 := bel_later hV D5.out; clear hV; go_simp
    try simp only [pu, pn, s1, s2, s3]
    refine wT (i := 2) (oi := { dst := some 29, op := Op.load 30 (Operand.tmp 3), type := 30, pos := "msg.go:119", after := #[], guard := none }) (v := (.agg #[.string a, .string b] : Value)) rfl (Or.inl ⟨by rfl, ?_⟩) HHeld.out ?_
    · intro V hV; have hc0 := bel_later hV E0.out; have hc1 := bel_later hV E1.out; clear hV; go_simp
    try simp only [pu, pn, s1, s2, s3]
    refine wpAnyH_ready (rs := [1, 7]) (by kernel_rfl) (by simp) ?_
    refine AllReadyH.cons (o := { dst := some 28, op := Op.call { callee := Callee.value (Operand.func 59), args := #[Operand.tmp 27], argTypes := #[50] }, type := 30, pos := "msg.go:119", after := #[{ on := 0, ground := Ground.data }], guard := none }) rfl (fun K hK => ?_) (AllReadyH.cons (o := { dst := some 6, op := Op.alloc 30, type := 0, pos := "msg.go:119", after := #[], guard := none }) rfl (fun K hK => ?_) AllReadyH.nil)
    · go_simp
      go_at_call 59; (refine (AS.out _).mono ?_); rintro e v1 ⟨rfl, cc⟩; have C1' := Lib.hid (bel_trans HHeld.out cc); clear cc
      refine hK.out _ _ ?_ (fun hHeld => ?_)
      · exact C1'.out
      clear HHeld; have HHeld := Lib.hid hHeld; clear hHeld
      clear hK K
      try simp only [pu, pn, s1, s2, s3]
      refine wpAnyH_ready (rs := [3, 7]) (by kernel_rfl) (by simp) ?_
      refine AllReadyH.cons (o := { dst := some 30, op := Op.call { callee := Callee.value (Operand.func 88), args := #[Operand.tmp 28, Operand.tmp 29], argTypes := #[30, 30] }, type := 76, pos := "msg.go:119", after := #[{ on := 1, ground := Ground.data }, { on := 2, ground := Ground.data }, { on := 1, ground := Ground.chain }], guard := none }) rfl (fun K hK => ?_) (AllReadyH.cons (o := { dst := some 6, op := Op.alloc 30, type := 0, pos := "msg.go:119", after := #[], guard := none }) rfl (fun K hK => ?_) AllReadyH.nil)
      · go_simp
        go_at_call 88; (refine (AM.out _).mono ?_); rintro e v3 ⟨rfl, cc⟩; have C3' := Lib.hid (bel_trans HHeld.out cc); clear cc
        refine hK.out _ _ ?_ (fun hHeld => ?_)
        · exact C3'.out
        clear HHeld; have HHeld := Lib.hid hHeld; clear hHeld
        clear hK K
        try simp only [pu, pn, s1, s2, s3]
        refine wT (i := 4) (oi := { dst := some 26, op := Op.move (Operand.tmp 30), type := 76, pos := "msg.go:119", after := #[{ on := 3, ground := Ground.data }], guard := none }) (v := ?_) rfl (Or.inl ⟨by rfl, ?_⟩) HHeld.out ?_
        rotate_left
        · intro w hSw; clear hSw; go_simp; try with_reducible rfl
        try simp only [pu, pn, s1, s2, s3]
        refine wT (i := 5) (oi := { dst := some 31, op := Op.extract (Operand.tmp 26) 0, type := 30, pos := "msg.go:119", after := #[{ on := 4, ground := Ground.data }], guard := none }) (v := ?_) rfl (Or.inl ⟨by rfl, ?_⟩) HHeld.out ?_
        rotate_left
        · intro w hSw; clear hSw; go_simp; try with_reducible rfl
        try simp only [pu, pn, s1, s2, s3]
        refine wT (i := 6) (oi := { dst := some 32, op := Op.extract (Operand.tmp 26) 1, type := 4, pos := "msg.go:119", after := #[{ on := 4, ground := Ground.data }, { on := 8, ground := Ground.gcOnly Departure.lateStores }], guard := none }) (v := ?_) rfl (Or.inl ⟨by rfl, ?_⟩) HHeld.out ?_
        rotate_left
        · intro w hSw; clear hSw; go_simp; try with_reducible rfl
        try simp only [pu, pn, s1, s2, s3]
        refine wpAnyH_ready (rs := [7]) (by kernel_rfl) (by simp) ?_
        refine AllReadyH.cons (o := { dst := some 6, op := Op.alloc 30, type := 0, pos := "msg.go:119", after := #[], guard := none }) rfl (fun K hK => ?_) AllReadyH.nil
        have ZZ := Lib.hid (heap_alloc_new v3 (rgc emptyS emptyS))
        have LE := Lib.hid (HHeld.out.size)
        have CA := Lib.hid (bel_alloc HHeld.out (rgc emptyS emptyS))
        go_simp
        refine hK.out _ _ ?_ (fun hHeld => ?_)
        · exact CA.out
        clear HHeld; have HHeld := Lib.hid hHeld; clear hHeld
        clear hK K
        try simp only [pu, pn, s1, s2, s3]
        refine wpAnyH_ready (rs := [8]) (by kernel_rfl) (by simp) ?_
        refine AllReadyH.cons (o := { dst := none, op := Op.store 30 (Operand.tmp 6) (Operand.tmp 31), type := 0, pos := "msg.go:119", after := #[{ on := 7, ground := Ground.data }, { on := 5, ground := Ground.data }, { on := 3, ground := Ground.chain }, { on := 0, ground := Ground.phase }, { on := 1, ground := Ground.phase }, { on := 2, ground := Ground.phase }, { on := 3, ground := Ground.phase }, { on := 4, ground := Ground.phase }, { on := 5, ground := Ground.phase }, { on := 6, ground := Ground.textOnly Departure.lateStores }, { on := 7, ground := Ground.phase }], guard := none }) rfl (fun K hK => ?_) AllReadyH.nil
        obtain ⟨f0, f1, f2, f3⟩ := has_two ZZ.out
        have CS := Lib.hid HHeld.out
        go_simp
        clear f0 f1 f2 f3
        refine hK.out _ _ ?_ (fun hHeld => ?_)
        · first | exact bel_alloc C3'.out _ | exact Below.setCell (Below.setCell CS.out (p := ⟨_, _, none⟩) LE.out _) (p := ⟨_, _, none⟩) LE.out _
        clear HHeld; have HHeld := Lib.hid hHeld; clear hHeld
        clear hK K
        try simp only [pu, pn, s1, s2, s3]
        refine wT (i := 9) (oi := { dst := some 7, op := Op.assign (Operand.tmp 32), type := 4, pos := "msg.go:119", after := #[{ on := 6, ground := Ground.data }, { on := 8, ground := Ground.chain }, { on := 0, ground := Ground.phase }, { on := 1, ground := Ground.phase }, { on := 2, ground := Ground.phase }, { on := 3, ground := Ground.phase }, { on := 4, ground := Ground.phase }, { on := 5, ground := Ground.phase }, { on := 6, ground := Ground.phase }, { on := 7, ground := Ground.phase }, { on := 8, ground := Ground.phase }], guard := none }) (v := ?_) rfl (Or.inl ⟨by rfl, ?_⟩) HHeld.out ?_
        rotate_left
        · intro w hSw; clear hSw; go_simp; try with_reducible rfl
        try simp only [pu, pn, s1, s2, s3]
        refine wpAnyH_done (by kernel_rfl) ?_ _
        have HF := Lib.hid HHeld.out
        clear HHeld
        refine at_exit (fun WF hWF => ?_)
        have BF := Lib.hid (show Below w1.heap.size w1 WF by rw [hWF]; exact HF.out)
        have ZB := Lib.hid (show WF.heap[v3.heap.size]? = some (rgc m0 m1) by rw [hWF]; first | exact heap_alloc_new _ _ | exact two_set ZZ.out _ _)
        clear hWF HF ZZ
        replace Z := Lib.hid (Z.out.later BF.out)
        replace H0 := Lib.hid (bel_trans H0.out BF.out)
        obtain ⟨c0, c1, c2, c3, c4, c5⟩ := cells6 Z.out.ha
        obtain ⟨d0, d1, -, -⟩ := has_two ZB.out
        go_wp2_with (first
            | (go_at_call 79; ((with_reducible refine (over_any m m0 m1 _).mono ?_); rintro e w5 ⟨rfl, b5⟩; replace Z := Lib.hid (Z.out.later b5); replace H0 := Lib.hid (bel_trans H0.out b5); clear b5 c0 c1 c2 c3 c4 c5 d0 d1; obtain ⟨f0, f1, f2, f3, f4, f5⟩ := mo_frozen6 Z.out.hc; obtain ⟨k0, k1, k2, k3, k4, k5⟩ := cells6 Z.out.hc))
            | fail)
        refine bodyPost_ret (v := CV (overM m m0 m1, true)) (by simp [results, Tryz.results76, go_sem, k0, k1, k2, k3, k4, k5, overM]) rfl ⟨by rw [HC.out, HM.out], ?_⟩
        exact bel6 H0.out (by omega) _ _ _ _ _ _
      · have ZZ := Lib.hid (heap_alloc_new v1 (rgc emptyS emptyS))
        have LE := Lib.hid (HHeld.out.size)
        have CA := Lib.hid (bel_alloc HHeld.out (rgc emptyS emptyS))
        go_simp
        refine hK.out _ _ ?_ (fun hHeld => ?_)
        · exact CA.out
        clear HHeld; have HHeld := Lib.hid hHeld; clear hHeld
        clear hK K
        try simp only [pu, pn, s1, s2, s3]
        refine wpAnyH_ready (rs := [3]) (by kernel_rfl) (by simp) ?_
        refine AllReadyH.cons (o := { dst := some 30, op := Op.call { callee := Callee.value (Operand.func 88), args := #[Operand.tmp 28, Operand.tmp 29], argTypes := #[30, 30] }, type := 76, pos := "msg.go:119", after := #[{ on := 1, ground := Ground.data }, { on := 2, ground := Ground.data }, { on := 1, ground := Ground.chain }], guard := none }) rfl (fun K hK => ?_) AllReadyH.nil
        go_simp
        go_at_call 88; (refine (AM.out _).mono ?_); rintro e v3 ⟨rfl, cc⟩; have C3' := Lib.hid (bel_trans HHeld.out cc); replace ZZ := Lib.hid (keep_bel cc ZZ.out); clear cc
        refine hK.out _ _ ?_ (fun hHeld => ?_)
        · exact C3'.out
        clear HHeld; have HHeld := Lib.hid hHeld; clear hHeld
        clear hK K
        try simp only [pu, pn, s1, s2, s3]
        refine wT (i := 4) (oi := { dst := some 26, op := Op.move (Operand.tmp 30), type := 76, pos := "msg.go:119", after := #[{ on := 3, ground := Ground.data }], guard := none }) (v := ?_) rfl (Or.inl ⟨by rfl, ?_⟩) HHeld.out ?_
        rotate_left
        · intro w hSw; clear hSw; go_simp; try with_reducible rfl
        try simp only [pu, pn, s1, s2, s3]
        refine wT (i := 5) (oi := { dst := some 31, op := Op.extract (Operand.tmp 26) 0, type := 30, pos := "msg.go:119", after := #[{ on := 4, ground := Ground.data }], guard := none }) (v := ?_) rfl (Or.inl ⟨by rfl, ?_⟩) HHeld.out ?_
        rotate_left
        · intro w hSw; clear hSw; go_simp; try with_reducible rfl
        try simp only [pu, pn, s1, s2, s3]
        refine wT (i := 6) (oi := { dst := some 32, op := Op.extract (Operand.tmp 26) 1, type := 4, pos := "msg.go:119", after := #[{ on := 4, ground := Ground.data }, { on := 8, ground := Ground.gcOnly Departure.lateStores }], guard := none }) (v := ?_) rfl (Or.inl ⟨by rfl, ?_⟩) HHeld.out ?_
        rotate_left
        · intro w hSw; clear hSw; go_simp; try with_reducible rfl
        try simp only [pu, pn, s1, s2, s3]
        refine wpAnyH_ready (rs := [8]) (by kernel_rfl) (by simp) ?_
        refine AllReadyH.cons (o := { dst := none, op := Op.store 30 (Operand.tmp 6) (Operand.tmp 31), type := 0, pos := "msg.go:119", after := #[{ on := 7, ground := Ground.data }, { on := 5, ground := Ground.data }, { on := 3, ground := Ground.chain }, { on := 0, ground := Ground.phase }, { on := 1, ground := Ground.phase }, { on := 2, ground := Ground.phase }, { on := 3, ground := Ground.phase }, { on := 4, ground := Ground.phase }, { on := 5, ground := Ground.phase }, { on := 6, ground := Ground.textOnly Departure.lateStores }, { on := 7, ground := Ground.phase }], guard := none }) rfl (fun K hK => ?_) AllReadyH.nil
        obtain ⟨f0, f1, f2, f3⟩ := has_two ZZ.out
        have CS := Lib.hid HHeld.out
        go_simp
        clear f0 f1 f2 f3
        refine hK.out _ _ ?_ (fun hHeld => ?_)
        · first | exact bel_alloc C3'.out _ | exact Below.setCell (Below.setCell CS.out (p := ⟨_, _, none⟩) LE.out _) (p := ⟨_, _, none⟩) LE.out _
        clear HHeld; have HHeld := Lib.hid hHeld; clear hHeld
        clear hK K
        try simp only [pu, pn, s1, s2, s3]
        refine wT (i := 9) (oi := { dst := some 7, op := Op.assign (Operand.tmp 32), type := 4, pos := "msg.go:119", after := #[{ on := 6, ground := Ground.data }, { on := 8, ground := Ground.chain }, { on := 0, ground := Ground.phase }, { on := 1, ground := Ground.phase }, { on := 2, ground := Ground.phase }, { on := 3, ground := Ground.phase }, { on := 4, ground := Ground.phase }, { on := 5, ground := Ground.phase }, { on := 6, ground := Ground.phase }, { on := 7, ground := Ground.phase }, { on := 8, ground := Ground.phase }], guard := none }) (v := ?_) rfl (Or.inl ⟨by rfl, ?_⟩) HHeld.out ?_
        rotate_left
        · intro w hSw; clear hSw; go_simp; try with_reducible rfl
        try simp only [pu, pn, s1, s2, s3]
        refine wpAnyH_done (by kernel_rfl) ?_ _
        have HF := Lib.hid HHeld.out
        clear HHeld
        refine at_exit (fun WF hWF => ?_)
        have BF := Lib.hid (show Below w1.heap.size w1 WF by rw [hWF]; exact HF.out)
        have ZB := Lib.hid (show WF.heap[v1.heap.size]? = some (rgc m0 m1) by rw [hWF]; first | exact heap_alloc_new _ _ | exact two_set ZZ.out _ _)
        clear hWF HF ZZ
        replace Z := Lib.hid (Z.out.later BF.out)
        replace H0 := Lib.hid (bel_trans H0.out BF.out)
        obtain ⟨c0, c1, c2, c3, c4, c5⟩ := cells6 Z.out.ha
        obtain ⟨d0, d1, -, -⟩ := has_two ZB.out
        go_wp2_with (first
            | (go_at_call 79; ((with_reducible refine (over_any m m0 m1 _).mono ?_); rintro e w5 ⟨rfl, b5⟩; replace Z := Lib.hid (Z.out.later b5); replace H0 := Lib.hid (bel_trans H0.out b5); clear b5 c0 c1 c2 c3 c4 c5 d0 d1; obtain ⟨f0, f1, f2, f3, f4, f5⟩ := mo_frozen6 Z.out.hc; obtain ⟨k0, k1, k2, k3, k4, k5⟩ := cells6 Z.out.hc))
            | fail)
        refine bodyPost_ret (v := CV (overM m m0 m1, true)) (by simp [results, Tryz.results76, go_sem, k0, k1, k2, k3, k4, k5, overM]) rfl ⟨by rw [HC.out, HM.out], ?_⟩
        exact bel6 H0.out (by omega) _ _ _ _ _ _
    · have ZZ := Lib.hid (show (w1.alloc (rgc emptyS emptyS)).drew.heap[w1.heap.size]? = some (rgc emptyS emptyS) from keep_bel ((Below.refl _ _).drew) (heap_alloc_new _ _))
      have LE := Lib.hid (HHeld.out.size)
      have CA := Lib.hid (bel_alloc HHeld.out (rgc emptyS emptyS))
      go_simp
      refine hK.out _ _ ?_ (fun hHeld => ?_)
      · exact CA.out
      clear HHeld; have HHeld := Lib.hid hHeld; clear hHeld
      clear hK K
      try simp only [pu, pn, s1, s2, s3]
      refine wpAnyH_ready (rs := [1]) (by kernel_rfl) (by simp) ?_
      refine AllReadyH.cons (o := { dst := some 28, op := Op.call { callee := Callee.value (Operand.func 59), args := #[Operand.tmp 27], argTypes := #[50] }, type := 30, pos := "msg.go:119", after := #[{ on := 0, ground := Ground.data }], guard := none }) rfl (fun K hK => ?_) AllReadyH.nil
      go_simp
      go_at_call 59; (refine (AS.out _).mono ?_); rintro e v1 ⟨rfl, cc⟩; have C1' := Lib.hid (bel_trans HHeld.out cc); replace ZZ := Lib.hid (keep_bel cc ZZ.out); clear cc
      refine hK.out _ _ ?_ (fun hHeld => ?_)
      · exact C1'.out
      clear HHeld; have HHeld := Lib.hid hHeld; clear hHeld
      clear hK K
      try simp only [pu, pn, s1, s2, s3]
      refine wpAnyH_ready (rs := [3]) (by kernel_rfl) (by simp) ?_
      refine AllReadyH.cons (o := { dst := some 30, op := Op.call { callee := Callee.value (Operand.func 88), args := #[Operand.tmp 28, Operand.tmp 29], argTypes := #[30, 30] }, type := 76, pos := "msg.go:119", after := #[{ on := 1, ground := Ground.data }, { on := 2, ground := Ground.data }, { on := 1, ground := Ground.chain }], guard := none }) rfl (fun K hK => ?_) AllReadyH.nil
      go_simp
      go_at_call 88; (refine (AM.out _).mono ?_); rintro e v3 ⟨rfl, cc⟩; have C3' := Lib.hid (bel_trans HHeld.out cc); replace ZZ := Lib.hid (keep_bel cc ZZ.out); clear cc
      refine hK.out _ _ ?_ (fun hHeld => ?_)
      · exact C3'.out
      clear HHeld; have HHeld := Lib.hid hHeld; clear hHeld
      clear hK K
      try simp only [pu, pn, s1, s2, s3]
      refine wT (i := 4) (oi := { dst := some 26, op := Op.move (Operand.tmp 30), type := 76, pos := "msg.go:119", after := #[{ on := 3, ground := Ground.data }], guard := none }) (v := ?_) rfl (Or.inl ⟨by rfl, ?_⟩) HHeld.out ?_
      rotate_left
      · intro w hSw; clear hSw; go_simp; try with_reducible rfl
      try simp only [pu, pn, s1, s2, s3]
      refine wT (i := 5) (oi := { dst := some 31, op := Op.extract (Operand.tmp 26) 0, type := 30, pos := "msg.go:119", after := #[{ on := 4, ground := Ground.data }], guard := none }) (v := ?_) rfl (Or.inl ⟨by rfl, ?_⟩) HHeld.out ?_
      rotate_left
      · intro w hSw; clear hSw; go_simp; try with_reducible rfl
      try simp only [pu, pn, s1, s2, s3]
      refine wT (i := 6) (oi := { dst := some 32, op := Op.extract (Operand.tmp 26) 1, type := 4, pos := "msg.go:119", after := #[{ on := 4, ground := Ground.data }, { on := 8, ground := Ground.gcOnly Departure.lateStores }], guard := none }) (v := ?_) rfl (Or.inl ⟨by rfl, ?_⟩) HHeld.out ?_
      rotate_left
      · intro w hSw; clear hSw; go_simp; try with_reducible rfl
      try simp only [pu, pn, s1, s2, s3]
      refine wpAnyH_ready (rs := [8]) (by kernel_rfl) (by simp) ?_
      refine AllReadyH.cons (o := { dst := none, op := Op.store 30 (Operand.tmp 6) (Operand.tmp 31), type := 0, pos := "msg.go:119", after := #[{ on := 7, ground := Ground.data }, { on := 5, ground := Ground.data }, { on := 3, ground := Ground.chain }, { on := 0, ground := Ground.phase }, { on := 1, ground := Ground.phase }, { on := 2, ground := Ground.phase }, { on := 3, ground := Ground.phase }, { on := 4, ground := Ground.phase }, { on := 5, ground := Ground.phase }, { on := 6, ground := Ground.textOnly Departure.lateStores }, { on := 7, ground := Ground.phase }], guard := none }) rfl (fun K hK => ?_) AllReadyH.nil
      obtain ⟨f0, f1, f2, f3⟩ := has_two ZZ.out
      have CS := Lib.hid HHeld.out
      go_simp
      clear f0 f1 f2 f3
      refine hK.out _ _ ?_ (fun hHeld => ?_)
      · first | exact bel_alloc C3'.out _ | exact Below.setCell (Below.setCell CS.out (p := ⟨_, _, none⟩) LE.out _) (p := ⟨_, _, none⟩) LE.out _
      clear HHeld; have HHeld := Lib.hid hHeld; clear hHeld
      clear hK K
      try simp only [pu, pn, s1, s2, s3]
      refine wT (i := 9) (oi := { dst := some 7, op := Op.assign (Operand.tmp 32), type := 4, pos := "msg.go:119", after := #[{ on := 6, ground := Ground.data }, { on := 8, ground := Ground.chain }, { on := 0, ground := Ground.phase }, { on := 1, ground := Ground.phase }, { on := 2, ground := Ground.phase }, { on := 3, ground := Ground.phase }, { on := 4, ground := Ground.phase }, { on := 5, ground := Ground.phase }, { on := 6, ground := Ground.phase }, { on := 7, ground := Ground.phase }, { on := 8, ground := Ground.phase }], guard := none }) (v := ?_) rfl (Or.inl ⟨by rfl, ?_⟩) HHeld.out ?_
      rotate_left
      · intro w hSw; clear hSw; go_simp; try with_reducible rfl
      try simp only [pu, pn, s1, s2, s3]
      refine wpAnyH_done (by kernel_rfl) ?_ _
      have HF := Lib.hid HHeld.out
      clear HHeld
      refine at_exit (fun WF hWF => ?_)
      have BF := Lib.hid (show Below w1.heap.size w1 WF by rw [hWF]; exact HF.out)
      have ZB := Lib.hid (show WF.heap[w1.heap.size]? = some (rgc m0 m1) by rw [hWF]; first | exact heap_alloc_new _ _ | exact two_set ZZ.out _ _)
      clear hWF HF ZZ
      replace Z := Lib.hid (Z.out.later BF.out)
      replace H0 := Lib.hid (bel_trans H0.out BF.out)
      obtain ⟨c0, c1, c2, c3, c4, c5⟩ := cells6 Z.out.ha
      obtain ⟨d0, d1, -, -⟩ := has_two ZB.out
      go_wp2_with (first
          | (go_at_call 79; ((with_reducible refine (over_any m m0 m1 _).mono ?_); rintro e w5 ⟨rfl, b5⟩; replace Z := Lib.hid (Z.out.later b5); replace H0 := Lib.hid (bel_trans H0.out b5); clear b5 c0 c1 c2 c3 c4 c5 d0 d1; obtain ⟨f0, f1, f2, f3, f4, f5⟩ := mo_frozen6 Z.out.hc; obtain ⟨k0, k1, k2, k3, k4, k5⟩ := cells6 Z.out.hc))
          | fail)
      refine bodyPost_ret (v := CV (overM m m0 m1, true)) (by simp [results, Tryz.results76, go_sem, k0, k1, k2, k3, k4, k5, overM]) rfl ⟨by rw [HC.out, HM.out], ?_⟩
      exact bel6 H0.out (by omega) _ _ _ _ _ _

theorem clip_any (m : MG) (ho : m.Ok) (a b : ByteArray) (w : World) :
    Calls Tryz.prog 76 #[MV m, .agg #[.string a, .string b]] w fun r w' => r = .returned (CV (clipM m a b)) ∧ Below w.heap.size w w' := by
  cases hp : isPt m.kd
  · cases h4 : (m.kd == 4)
    · exact clip_no m ho a b w hp h4
    · exact clip_cl m ho a b w hp h4
  · exact clip_pt m ho a b w hp
end Go.Proofs.YtilnpeekajnlhaaGreat
