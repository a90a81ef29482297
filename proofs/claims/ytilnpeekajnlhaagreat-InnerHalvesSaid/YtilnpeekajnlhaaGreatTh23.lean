/- SymMerge where the messages lie. -/
import Derived.Test.YtilnpeekajnlhaaGreatTh02
import Derived.Test.YtilnpeekajnlhaaGreatTh22
set_option linter.unusedVariables false
set_option linter.unusedSimpArgs false
namespace Go.Proofs.YtilnpeekajnlhaaGreat
open Go.RowKit Go.Maps
theorem srt_get {V : List MG} (h : Srt V) {q g : Nat} (hqg : q ≤ g) {u v : MG} (hq : V[q]? = some u) (hg : V[g]? = some v) : aheadM v u = false := by
  rcases (by omega : q = g ∨ q < g) with e | e
  · subst e; rw [hq] at hg; cases hg; exact ahead_irr _
  · unfold Srt at h
    rw [List.pairwise_iff_getElem] at h
    obtain ⟨a1, a2⟩ := List.getElem?_eq_some_iff.1 hq
    obtain ⟨b1, b2⟩ := List.getElem?_eq_some_iff.1 hg
    have := h q g a1 b1 e
    rw [a2, b2] at this; exact this
theorem one_in {V1 V2 : List MG} {x : MG} (hs : Srt (V1 ++ V2)) (a1 : ∀ v ∈ V1, aheadM v x = true) (a2 : ∀ v ∈ V2, aheadM v x = false) : V1 ++ x :: V2 = stab (x :: (V1 ++ V2)) := by
  have q := merge_parts (U1 := []) (U2 := [x]) (V1 := V1) (V2 := V2) (List.pairwise_singleton _ _) hs (fun v hv y hy => by rw [List.mem_singleton.1 hy]; exact a1 v hv) (fun v hv => by cases hv)
  have hs2 := hs
  unfold Srt at hs2
  rw [List.pairwise_append] at hs2
  have s1 : stab ([] ++ V1) = V1 := stab_srt hs2.1
  have s2 : stab ([x] ++ V2) = x :: V2 := stab_srt (List.pairwise_cons.2 ⟨fun v hv => a2 v hv, hs2.2.1⟩)
  rw [s1, s2] at q
  exact q
theorem last_in {U1 U2 : List MG} {y : MG} (hs : Srt (U1 ++ U2)) (a1 : ∀ v ∈ U1, aheadM y v = false) (a2 : ∀ v ∈ U2, aheadM y v = true) : U1 ++ y :: U2 = stab (U1 ++ U2 ++ [y]) := by
  have q := merge_parts (U1 := U1) (U2 := U2) (V1 := [y]) (V2 := []) hs (List.pairwise_singleton _ _) (fun v hv u hu => by rw [List.mem_singleton.1 hv]; exact a2 u hu) (fun v hv u hu => by cases hu)
  have hs2 := hs
  unfold Srt at hs2
  rw [List.pairwise_append] at hs2
  have s1 : stab (U1 ++ [y]) = U1 ++ [y] := stab_srt (List.pairwise_append.2 ⟨hs2.1, List.pairwise_singleton _ _, fun v hv u hu => by rw [List.mem_singleton.1 hu]; exact a1 v hv⟩)
  have s2 : stab (U2 ++ []) = U2 := by rw [List.append_nil]; exact stab_srt hs2.2.1
  rw [s1, s2, List.append_assoc] at q
  simpa using q
set_option maxRecDepth 100000 in
set_option maxHeartbeats 8000000 in
theorem sym_one (b off n cap a m e : Nat) (P V S : List MG) (x : MG) (w : World) (hp : P.length = a) (h1 : a + 1 = m) (h2 : m + V.length = e) (hl : (P ++ x :: V ++ S).length = n) (hs : Srt V) (hn : n ≤ 1000) (hnc : n ≤ cap) (hI : InP w b off (P ++ x :: V ++ S) w) :
    Calls Tryz.prog 102 #[.slice (some ⟨b, off, none⟩) n cap, .int .i64 a, .int .i64 m, .int .i64 e, OF] w fun r w' => r = .returned (.tuple #[]) ∧ InP w b off (P ++ stab (x :: V) ++ S) w' := by
  have hen : e ≤ n := by simp only [List.length_append, List.length_cons] at hl; omega
  have q1 : (m : Int) ≤ 1000 := by omega
  have q2 : (e : Int) ≤ 1000 := by omega
  have q3 : (0 : Int) ≤ (m : Int) := by omega
  have q4 : (0 : Int) ≤ (a : Int) := by omega
  have q5 : (a : Int) ≤ (m : Int) := by omega
  have q6 : (m : Int) ≤ (e : Int) := by omega
  have q7 : (0 : Int) ≤ (e : Int) := by omega
  have e1 : (m : Int) - (a : Int) = 1 := by omega
  have HH := Lib.hid (And.intro hp (And.intro h1 h2))
  have HL := Lib.hid hl
  have HS := Lib.hid hs
  have HI := Lib.hid hI
  clear hp h1 h2 hl hs hI
  go_enter Tryz.func102, Tryz.ntmps102
  go_wp2
  go_loopw [10, 11] (fun iv jv wr => ∃ (i j : Nat), m ≤ i ∧ i ≤ j ∧ j ≤ e ∧ iv = .int .i64 i ∧ jv = .int .i64 j ∧ Hid (∀ q v, V[q]? = some v → (m + q < i → aheadM v x = true) ∧ (j ≤ m + q → aheadM v x = false)) ∧ InP w b off (P ++ x :: V ++ S) wr) (fun iv jv _ => (intOf jv).toNat - (intOf iv).toNat)
  case atStart => exact ⟨m, e, by omega, by omega, by omega, rfl, rfl, Lib.hid (fun q v hq => ⟨fun h => by omega, fun h => by have := (List.getElem?_eq_some_iff.1 hq).1; have := HH.out; omega⟩), HI.out⟩
  case round =>
    obtain ⟨i, j, hi, hij, hj, rfl, rfl, HP, hI⟩ := hrel
    have HW := Lib.hid hI
    clear hI
    by_cases h : i < j
    · have z1 : (i : Int) < (j : Int) := by omega
      have z2 : (0 : Int) ≤ (i : Int) := by omega
      have z3 : (0 : Int) ≤ (j : Int) := by omega
      have z4 : (j : Int) ≤ 1000 := by omega
      have z5 : (i : Int) ≤ 1000 := by omega
      obtain ⟨h, hh⟩ : ∃ h, (i + j) / 2 = h := ⟨_, rfl⟩
      have eh : ((i : Int) + (j : Int)) / 2 = (h : Int) := by omega
      have i1 : i ≤ h := by omega
      have i2 : h < j := by omega
      have y1 : (h : Int) < (n : Int) := by omega
      have y2 : (0 : Int) ≤ (h : Int) := by omega
      have y3 : h < n := by omega
      have y4 : (h : Int) ≤ 1000 := by omega
      have y5 : (a : Int) < (n : Int) := by omega
      have y6 : a < n := by omega
      obtain ⟨g, hg⟩ : ∃ g, m + g = h := ⟨h - m, by omega⟩
      obtain ⟨v, hv⟩ : ∃ v, V[g]? = some v := ⟨_, List.getElem?_eq_getElem (by have := HH.out; omega)⟩
      have HGJ := Lib.hid (show (P ++ x :: V ++ S)[h]? = some v by
        have := HH.out
        rw [List.append_assoc, List.getElem?_append_right (by omega), show h - P.length = g + 1 by omega, List.cons_append, List.getElem?_cons_succ, List.getElem?_append_left (List.getElem?_eq_some_iff.1 hv).1]
        exact hv)
      have HGP := Lib.hid (show (P ++ x :: V ++ S)[a]? = some x by
        have := HH.out
        rw [List.append_assoc, List.getElem?_append_right (by omega), show a - P.length = 0 by omega]; rfl)
      have HV := Lib.hid hv
      have HG := Lib.hid hg
      have AA := Lib.hid (order_any v x)
      have HD := Lib.hid (ord_ahead v x)
      obtain ⟨ov, hov⟩ : ∃ ov, ordM v x = ov := ⟨_, rfl⟩
      rw [hov] at AA HD
      have HHJ := Lib.hid (And.intro i1 i2)
      clear hov hh hv hg i1 i2
      obtain ⟨c0, c1, c2, c3, c4, c5⟩ := HW.out.at HGJ.out
      obtain ⟨g0, g1, g2, g3, g4, g5⟩ := HW.out.at HGP.out
      cases haa : aheadM v x
      all_goals
        have HAH := Lib.hid haa
        have hd := HD.out
        rw [haa] at hd
        clear haa
        have KS := Lib.hid (show ∀ W, Below wr.heap.size wr W → Below wr.heap.size wr W ∧ W.cell? ⟨b, off + h * 6, none⟩ = some (.int .u8 v.kd) ∧ W.cell? ⟨b, off + h * 6 + 1, none⟩ = some (.int .i64 v.sq) ∧ W.cell? ⟨b, off + h * 6 + 2, none⟩ = some (.string v.ky) ∧ W.cell? ⟨b, off + h * 6 + 3, none⟩ = some (.string v.to) ∧ W.cell? ⟨b, off + h * 6 + 4, none⟩ = some (.string v.vl) ∧ W.cell? ⟨b, off + h * 6 + 5, none⟩ = some (.int .u64 v.dl) ∧ W.cell? ⟨b, off + a * 6, none⟩ = some (.int .u8 x.kd) ∧ W.cell? ⟨b, off + a * 6 + 1, none⟩ = some (.int .i64 x.sq) ∧ W.cell? ⟨b, off + a * 6 + 2, none⟩ = some (.string x.ky) ∧ W.cell? ⟨b, off + a * 6 + 3, none⟩ = some (.string x.to) ∧ W.cell? ⟨b, off + a * 6 + 4, none⟩ = some (.string x.vl) ∧ W.cell? ⟨b, off + a * 6 + 5, none⟩ = some (.int .u64 x.dl) from fun W h => ⟨h, bel_later h c0, bel_later h c1, bel_later h c2, bel_later h c3, bel_later h c4, bel_later h c5, bel_later h g0, bel_later h g1, bel_later h g2, bel_later h g3, bel_later h g4, bel_later h g5⟩)
        go_wp2_with fail
        clear c0 c1 c2 c3 c4 c5 g0 g1 g2 g3 g4 g5
        go_region_held3 (fun W => Below wr.heap.size wr W ∧ W.cell? ⟨b, off + h * 6, none⟩ = some (.int .u8 v.kd) ∧ W.cell? ⟨b, off + h * 6 + 1, none⟩ = some (.int .i64 v.sq) ∧ W.cell? ⟨b, off + h * 6 + 2, none⟩ = some (.string v.ky) ∧ W.cell? ⟨b, off + h * 6 + 3, none⟩ = some (.string v.to) ∧ W.cell? ⟨b, off + h * 6 + 4, none⟩ = some (.string v.vl) ∧ W.cell? ⟨b, off + h * 6 + 5, none⟩ = some (.int .u64 v.dl) ∧ W.cell? ⟨b, off + a * 6, none⟩ = some (.int .u8 x.kd) ∧ W.cell? ⟨b, off + a * 6 + 1, none⟩ = some (.int .i64 x.sq) ∧ W.cell? ⟨b, off + a * 6 + 2, none⟩ = some (.string x.ky) ∧ W.cell? ⟨b, off + a * 6 + 3, none⟩ = some (.string x.to) ∧ W.cell? ⟨b, off + a * 6 + 4, none⟩ = some (.string x.vl) ∧ W.cell? ⟨b, off + a * 6 + 5, none⟩ = some (.int .u64 x.dl)) (first | exact KS.out _ ((Below.refl _ _).drew) | exact KS.out _ (bel_trans (And.left ‹_›) ‹_›) | (trace_state; fail)) (first
          | (go_at_call 61; ((with_reducible refine (AA.out _).mono ?_); rintro e w1 ⟨rfl, b1⟩)))
        rename_i hH
        have HW1 := Lib.hid (HW.out.later hH.1)
        clear hH
      · go_wp2
        exact ⟨⟨i, h, hi, HHJ.out.1, by have := HHJ.out; omega, rfl, rfl, Lib.hid (fun q u hq => ⟨fun k => (HP.out q u hq).1 k, fun k => nahead_trans HAH.out (srt_get HS.out (by have := HG.out; omega) HV.out hq)⟩), HW1.out⟩, by simp [intOf]; have := HHJ.out; omega⟩
      · go_wp2
        exact ⟨⟨h + 1, j, by have := HHJ.out; omega, by have := HHJ.out; omega, hj, by simp, rfl, Lib.hid (fun q u hq => ⟨fun k => le_ahead (srt_get HS.out (by have := HG.out; omega) hq HV.out) HAH.out, fun k => (HP.out q u hq).2 k⟩), HW1.out⟩, by simp [intOf]; have := HHJ.out; omega⟩
    · have z1 : ¬ (i : Int) < (j : Int) := by omega
      have hij2 : j = i := by omega
      have HZ := Lib.hid (show i = m + (i - m) ∧ i - m ≤ V.length by have := HH.out; omega)
      obtain ⟨V1, hV1⟩ : ∃ V1, V.take (i - m) = V1 := ⟨_, rfl⟩
      obtain ⟨V2, hV2⟩ : ∃ V2, V.drop (i - m) = V2 := ⟨_, rfl⟩
      have hVV : V1 ++ V2 = V := by rw [← hV1, ← hV2, List.take_append_drop]
      have hl1 : V1.length = i - m := by rw [← hV1, List.length_take]; have := HZ.out; omega
      have a1 : ∀ v ∈ V1, aheadM v x = true := fun v hv => by
        rw [← hV1] at hv
        obtain ⟨q, hq1, hq2⟩ := take_mem hv
        exact (HP.out q v hq2).1 (by omega)
      have a2 : ∀ v ∈ V2, aheadM v x = false := fun v hv => by
        rw [← hV2] at hv
        obtain ⟨q, hq1, hq2, hq3⟩ := drop_mem hv
        exact (HP.out q v hq3).2 (by omega)
      have HST := Lib.hid (show V1 ++ x :: V2 = stab (x :: V) by
        rw [← hVV]
        exact (one_in (by rw [hVV]; exact HS.out) a1 a2))
      have HW0 := Lib.hid (show InP w b off (P ++ V1.take 0 ++ x :: (V1.drop 0 ++ (V2 ++ S))) wr by
        have z := HW.out
        rw [← hVV] at z
        simpa using z)
      have HLL := Lib.hid (show (P ++ x :: (V1 ++ (V2 ++ S))).length = n by
        have z := HL.out
        rw [← hVV] at z
        simpa using z)
      obtain ⟨z, hz⟩ : ∃ z, a + V1.length = z := ⟨_, rfl⟩
      have e3 : (i : Int) - 1 = (z : Int) := by have := HH.out; have := HZ.out; omega
      have e4 : (1 : Int) ≤ (i : Int) := by omega
      have e5 : (i : Int) ≤ 1000 := by omega
      have HZZ := Lib.hid hz
      have HZN := Lib.hid (show z < n by have := HH.out; omega)
      clear hV1 hV2 hVV hl1 a1 a2 HW HP hij2 hz
      go_wp2
      go_loopw [13] (fun kv wr => ∃ (t : Nat), t ≤ V1.length ∧ kv = .int .i64 ((a + t : Nat) : Int) ∧ InP w b off (P ++ V1.take t ++ x :: (V1.drop t ++ (V2 ++ S))) wr) (fun kv _ => z - (intOf kv).toNat)
      case atStart => exact ⟨0, by omega, by simp, HW0.out⟩
      case round =>
        clear HW0
        obtain ⟨t, ht, rfl, hI⟩ := hrel
        have HW := Lib.hid hI
        clear hI
        obtain ⟨k, hk⟩ : ∃ k, a + t = k := ⟨_, rfl⟩
        rw [hk]
        have HKT := Lib.hid hk
        by_cases h8 : t < V1.length
        · have k1 : (k : Int) < (z : Int) := by have := HZZ.out; omega
          obtain ⟨k1, hk1⟩ : ∃ k1, k + 1 = k1 := ⟨_, rfl⟩
          have n1 : (k : Int) + 1 = (k1 : Int) := by omega
          have n2 : k1 < n := by have := HZZ.out; have := HZN.out; omega
          have n3 : (k1 : Int) < (n : Int) := by omega
          have n4 : (0 : Int) ≤ (k : Int) := by omega
          have n5 : (k : Int) < (n : Int) := by omega
          have n6 : k < n := by omega
          have n7 : (0 : Int) ≤ (k1 : Int) := by omega
          have wq1 : IntKind.i64.wrap ((k : Int) + 1) = (k : Int) + 1 := IntWalk.i64_in _ (by omega)
          have wq2 : IntKind.i64.wrap (k1 : Int) = (k1 : Int) := IntWalk.i64_in _ (by omega)
          obtain ⟨y, hy⟩ : ∃ y, V1[t]? = some y := ⟨_, List.getElem?_eq_getElem h8⟩
          have hdk : V1.drop t = y :: V1.drop (t + 1) := by
            obtain ⟨h1, h2⟩ := List.getElem?_eq_some_iff.1 hy
            rw [← h2]; exact List.drop_eq_getElem_cons h1
          have htk : V1.take (t + 1) = V1.take t ++ [y] := by rw [List.take_add_one, hy]; rfl
          have hla : (P ++ V1.take t).length = k := by rw [List.length_append, List.length_take]; have := HH.out; omega
          have hform : P ++ V1.take t ++ x :: (V1.drop t ++ (V2 ++ S)) = (P ++ V1.take t) ++ x :: ([] ++ y :: (V1.drop (t + 1) ++ (V2 ++ S))) := by rw [hdk]; rfl
          have HGJ := Lib.hid (show (P ++ V1.take t ++ x :: (V1.drop t ++ (V2 ++ S)))[k]? = some x by rw [hform, List.getElem?_append_right (by omega), hla]; simp)
          have HGP := Lib.hid (show (P ++ V1.take t ++ x :: (V1.drop t ++ (V2 ++ S)))[k1]? = some y by rw [hform, List.getElem?_append_right (by omega), hla, show k1 - k = 0 + 1 by omega]; simp)
          have HSW := Lib.hid (show (((P ++ V1.take t ++ x :: (V1.drop t ++ (V2 ++ S))).set k y).set k1 x) = P ++ V1.take (t + 1) ++ x :: (V1.drop (t + 1) ++ (V2 ++ S)) by
            have q := swap_two (P ++ V1.take t) [] (V1.drop (t + 1) ++ (V2 ++ S)) x y
            rw [hla, List.length_nil, Nat.add_zero, hk1] at q
            rw [hform, q, htk]; simp)
          have HLEN := Lib.hid (show (P ++ V1.take t ++ x :: (V1.drop t ++ (V2 ++ S))).length = n by
            have z := HLL.out
            simp only [List.length_append, List.length_cons, List.length_take, List.length_drop] at z ⊢
            omega)
          have HNE := Lib.hid (show k ≠ k1 by omega)
          have HK1 := Lib.hid hk1
          clear hy hdk htk hla hform hk hk1
          obtain ⟨c0, c1, c2, c3, c4, c5⟩ := HW.out.at HGJ.out
          obtain ⟨g0, g1, g2, g3, g4, g5⟩ := HW.out.at HGP.out
          have hfz : ∀ q, wr.frozen? ⟨b, q, none⟩ = false := HW.out.frz
          go_wp2_with fail
          refine wp_region_held_drew (S := (fun V : World => True)) (by kernel_rfl) ?_ (fun hHeld => ?_)
          · trivial
          have HHeld := Lib.hid hHeld; clear hHeld
          refine wT (i := 0) (oi := { dst := some 61, op := Op.move (Operand.tmp 0), type := 25, pos := "zsortanyfunc.go:398", after := #[], guard := none }) (v := ?_) rfl (Or.inl ⟨by rfl, ?_⟩) HHeld.out ?_
          rotate_left
          · intro w hSw; clear hSw; go_simp; try with_reducible rfl
          try simp only [pu, pn, s1, s2, s3]
          refine wT (i := 1) (oi := { dst := some 62, op := Op.move (Operand.tmp 13), type := 3, pos := "zsortanyfunc.go:398", after := #[], guard := none }) (v := ?_) rfl (Or.inl ⟨by rfl, ?_⟩) HHeld.out ?_
          rotate_left
          · intro w hSw; clear hSw; go_simp; try with_reducible rfl
          try simp only [pu, pn, s1, s2, s3]
          refine wT (i := 2) (oi := { dst := some 63, op := Op.move (Operand.tmp 0), type := 25, pos := "zsortanyfunc.go:398", after := #[{ on := 15, ground := Ground.gcOnly Departure.lateStores }], guard := none }) (v := ?_) rfl (Or.inl ⟨by rfl, ?_⟩) HHeld.out ?_
          rotate_left
          · intro w hSw; clear hSw; go_simp; try with_reducible rfl
          try simp only [pu, pn, s1, s2, s3]
          refine wT (i := 3) (oi := { dst := some 64, op := Op.move (Operand.tmp 13), type := 3, pos := "zsortanyfunc.go:398", after := #[{ on := 15, ground := Ground.gcOnly Departure.lateStores }], guard := none }) (v := ?_) rfl (Or.inl ⟨by rfl, ?_⟩) HHeld.out ?_
          rotate_left
          · intro w hSw; clear hSw; go_simp; try with_reducible rfl
          try simp only [pu, pn, s1, s2, s3]
          refine wT (i := 4) (oi := { dst := some 65, op := Op.binOp BinOp.add 3 (Operand.tmp 64) (Operand.const (Value.int IntKind.i64 1)) 3, type := 3, pos := "zsortanyfunc.go:398", after := #[{ on := 3, ground := Ground.data }, { on := 15, ground := Ground.gcOnly Departure.lateStores }], guard := none }) (v := ?_) rfl (Or.inl ⟨by rfl, ?_⟩) HHeld.out ?_
          rotate_left
          · intro w hSw; clear hSw; go_simp; try with_reducible rfl
          try simp only [pu, pn, s1, s2, s3]
          refine wT (i := 5) (oi := { dst := some 66, op := Op.move (Operand.tmp 0), type := 25, pos := "zsortanyfunc.go:398", after := #[], guard := none }) (v := ?_) rfl (Or.inl ⟨by rfl, ?_⟩) HHeld.out ?_
          rotate_left
          · intro w hSw; clear hSw; go_simp; try with_reducible rfl
          try simp only [pu, pn, s1, s2, s3]
          refine wT (i := 6) (oi := { dst := some 67, op := Op.move (Operand.tmp 13), type := 3, pos := "zsortanyfunc.go:398", after := #[], guard := none }) (v := ?_) rfl (Or.inl ⟨by rfl, ?_⟩) HHeld.out ?_
          rotate_left
          · intro w hSw; clear hSw; go_simp; try with_reducible rfl
          try simp only [pu, pn, s1, s2, s3]
          refine wT (i := 7) (oi := { dst := some 68, op := Op.binOp BinOp.add 3 (Operand.tmp 67) (Operand.const (Value.int IntKind.i64 1)) 3, type := 3, pos := "zsortanyfunc.go:398", after := #[{ on := 6, ground := Ground.data }], guard := none }) (v := ?_) rfl (Or.inl ⟨by rfl, ?_⟩) HHeld.out ?_
          rotate_left
          · intro w hSw; clear hSw; go_simp; try with_reducible rfl
          try simp only [pu, pn, s1, s2, s3]
          refine wT (i := 8) (oi := { dst := some 69, op := Op.indexAddr 25 (Operand.tmp 66) (Operand.tmp 68), type := 0, pos := "zsortanyfunc.go:398", after := #[{ on := 5, ground := Ground.data }, { on := 7, ground := Ground.data }], guard := none }) (v := ?_) rfl (Or.inl ⟨by rfl, ?_⟩) HHeld.out ?_
          rotate_left
          · intro w hSw; clear hSw; go_simp; try with_reducible rfl
          try simp only [pu, pn, s1, s2, s3]
          refine wT (i := 10) (oi := { dst := some 71, op := Op.move (Operand.tmp 0), type := 25, pos := "zsortanyfunc.go:398", after := #[], guard := none }) (v := ?_) rfl (Or.inl ⟨by rfl, ?_⟩) HHeld.out ?_
          rotate_left
          · intro w hSw; clear hSw; go_simp; try with_reducible rfl
          try simp only [pu, pn, s1, s2, s3]
          refine wT (i := 11) (oi := { dst := some 72, op := Op.move (Operand.tmp 13), type := 3, pos := "zsortanyfunc.go:398", after := #[], guard := none }) (v := ?_) rfl (Or.inl ⟨by rfl, ?_⟩) HHeld.out ?_
          rotate_left
          · intro w hSw; clear hSw; go_simp; try with_reducible rfl
          try simp only [pu, pn, s1, s2, s3]
          refine wT (i := 12) (oi := { dst := some 73, op := Op.indexAddr 25 (Operand.tmp 71) (Operand.tmp 72), type := 0, pos := "zsortanyfunc.go:398", after := #[{ on := 10, ground := Ground.data }, { on := 11, ground := Ground.data }], guard := none }) (v := ?_) rfl (Or.inl ⟨by rfl, ?_⟩) HHeld.out ?_
          rotate_left
          · intro w hSw; clear hSw; go_simp; try with_reducible rfl
          try simp only [pu, pn, s1, s2, s3]
          refine wpAnyH_ready (rs := [9, 13]) (by kernel_rfl) (by simp) ?_
          refine AllReadyH.cons (o := { dst := some 70, op := Op.load 50 (Operand.tmp 69), type := 50, pos := "zsortanyfunc.go:398", after := #[{ on := 8, ground := Ground.data }], guard := none }) rfl (fun K hK => ?_) (AllReadyH.cons (o := { dst := some 74, op := Op.load 50 (Operand.tmp 73), type := 50, pos := "zsortanyfunc.go:398", after := #[{ on := 12, ground := Ground.data }], guard := none }) rfl (fun K hK => ?_) AllReadyH.nil)
          · go_simp
            refine hK.out _ _ ?_ (fun hHeld => ?_)
            · trivial
            clear HHeld; have HHeld := Lib.hid hHeld; clear hHeld
            clear hK K
            try simp only [pu, pn, s1, s2, s3]
            refine wpAnyH_ready (rs := [13]) (by kernel_rfl) (by simp) ?_
            refine AllReadyH.cons (o := { dst := some 74, op := Op.load 50 (Operand.tmp 73), type := 50, pos := "zsortanyfunc.go:398", after := #[{ on := 12, ground := Ground.data }], guard := none }) rfl (fun K hK => ?_) AllReadyH.nil
            go_simp
            refine hK.out _ _ ?_ (fun hHeld => ?_)
            · trivial
            clear HHeld; have HHeld := Lib.hid hHeld; clear hHeld
            clear hK K
            try simp only [pu, pn, s1, s2, s3]
            refine wT (i := 14) (oi := { dst := some 75, op := Op.indexAddr 25 (Operand.tmp 61) (Operand.tmp 62), type := 0, pos := "zsortanyfunc.go:398", after := #[{ on := 0, ground := Ground.data }, { on := 1, ground := Ground.data }, { on := 0, ground := Ground.phase }, { on := 1, ground := Ground.phase }, { on := 2, ground := Ground.textOnly Departure.lateStores }, { on := 3, ground := Ground.textOnly Departure.lateStores }, { on := 4, ground := Ground.textOnly Departure.lateStores }, { on := 5, ground := Ground.phase }, { on := 6, ground := Ground.phase }, { on := 7, ground := Ground.phase }, { on := 8, ground := Ground.phase }, { on := 9, ground := Ground.phase }, { on := 10, ground := Ground.textOnly Departure.lateStores }, { on := 11, ground := Ground.textOnly Departure.lateStores }, { on := 12, ground := Ground.textOnly Departure.lateStoresUnsure }, { on := 13, ground := Ground.phase }], guard := none }) (v := ?_) rfl (Or.inl ⟨by rfl, ?_⟩) HHeld.out ?_
            rotate_left
            · intro w hSw; clear hSw; go_simp; try with_reducible rfl
            try simp only [pu, pn, s1, s2, s3]
            refine wpAnyH_ready (rs := [15]) (by kernel_rfl) (by simp) ?_
            refine AllReadyH.cons (o := { dst := none, op := Op.store 50 (Operand.tmp 75) (Operand.tmp 70), type := 0, pos := "zsortanyfunc.go:398", after := #[{ on := 14, ground := Ground.data }, { on := 9, ground := Ground.data }, { on := 0, ground := Ground.phase }, { on := 1, ground := Ground.phase }, { on := 2, ground := Ground.textOnly Departure.lateStores }, { on := 3, ground := Ground.textOnly Departure.lateStores }, { on := 4, ground := Ground.textOnly Departure.lateStores }, { on := 5, ground := Ground.phase }, { on := 6, ground := Ground.phase }, { on := 7, ground := Ground.phase }, { on := 8, ground := Ground.phase }, { on := 9, ground := Ground.phase }, { on := 10, ground := Ground.textOnly Departure.lateStores }, { on := 11, ground := Ground.textOnly Departure.lateStores }, { on := 12, ground := Ground.textOnly Departure.lateStoresUnsure }, { on := 13, ground := Ground.phase }], guard := none }) rfl (fun K hK => ?_) AllReadyH.nil
            go_simp
            generalize hW2 : World.setCell _ _ _ = W2
            have I2 := Lib.hid (show InP w b off ((P ++ V1.take t ++ x :: (V1.drop t ++ (V2 ++ S))).set k y) W2 by rw [← hW2]; exact (HW.out.set (i := k) (by have := HLEN.out; omega) y))
            clear hW2
            obtain ⟨m0, m1, m2, m3, m4, m5⟩ := I2.out.at (i := k1) (x := y) (by rw [List.getElem?_set_ne HNE.out]; exact HGP.out)
            have mf : ∀ q, W2.frozen? ⟨b, q, none⟩ = false := I2.out.frz
            refine hK.out _ _ ?_ (fun hHeld => ?_)
            · trivial
            clear HHeld; have HHeld := Lib.hid hHeld; clear hHeld
            clear hK K
            try simp only [pu, pn, s1, s2, s3]
            refine wT (i := 16) (oi := { dst := some 76, op := Op.indexAddr 25 (Operand.tmp 63) (Operand.tmp 65), type := 0, pos := "zsortanyfunc.go:398", after := #[{ on := 2, ground := Ground.data }, { on := 4, ground := Ground.data }, { on := 0, ground := Ground.phase }, { on := 1, ground := Ground.phase }, { on := 2, ground := Ground.phase }, { on := 3, ground := Ground.phase }, { on := 4, ground := Ground.phase }, { on := 5, ground := Ground.phase }, { on := 6, ground := Ground.phase }, { on := 7, ground := Ground.phase }, { on := 8, ground := Ground.phase }, { on := 9, ground := Ground.phase }, { on := 10, ground := Ground.phase }, { on := 11, ground := Ground.phase }, { on := 12, ground := Ground.phase }, { on := 13, ground := Ground.phase }, { on := 14, ground := Ground.phase }, { on := 15, ground := Ground.phase }], guard := none }) (v := ?_) rfl (Or.inl ⟨by rfl, ?_⟩) HHeld.out ?_
            rotate_left
            · intro w hSw; clear hSw; go_simp; try with_reducible rfl
            try simp only [pu, pn, s1, s2, s3]
            refine wpAnyH_ready (rs := [17]) (by kernel_rfl) (by simp) ?_
            refine AllReadyH.cons (o := { dst := none, op := Op.store 50 (Operand.tmp 76) (Operand.tmp 74), type := 0, pos := "zsortanyfunc.go:398", after := #[{ on := 16, ground := Ground.data }, { on := 13, ground := Ground.data }, { on := 15, ground := Ground.chain }, { on := 0, ground := Ground.phase }, { on := 1, ground := Ground.phase }, { on := 2, ground := Ground.phase }, { on := 3, ground := Ground.phase }, { on := 4, ground := Ground.phase }, { on := 5, ground := Ground.phase }, { on := 6, ground := Ground.phase }, { on := 7, ground := Ground.phase }, { on := 8, ground := Ground.phase }, { on := 9, ground := Ground.phase }, { on := 10, ground := Ground.phase }, { on := 11, ground := Ground.phase }, { on := 12, ground := Ground.phase }, { on := 13, ground := Ground.phase }, { on := 14, ground := Ground.phase }, { on := 15, ground := Ground.phase }], guard := none }) rfl (fun K hK => ?_) AllReadyH.nil
            go_simp
            generalize hW3 : World.setCell _ _ _ = W3
            have I3 := Lib.hid (show InP w b off (((P ++ V1.take t ++ x :: (V1.drop t ++ (V2 ++ S))).set k y).set k1 x) W3 by rw [← hW3]; exact (I2.out.set (i := k1) (by have := HLEN.out; simp only [List.length_set]; omega) x))
            clear hW3
            refine hK.out _ _ ?_ (fun hHeld => ?_)
            · trivial
            clear HHeld; have HHeld := Lib.hid hHeld; clear hHeld
            clear hK K
            try simp only [pu, pn, s1, s2, s3]
            refine wpAnyH_done (by kernel_rfl) ?_ _
            have HF := Lib.hid (show InP w b off (P ++ V1.take (t + 1) ++ x :: (V1.drop (t + 1) ++ (V2 ++ S))) W3 by
              have q := I3.out
              rw [HSW.out] at q
              exact q)
            clear HHeld
            go_wp2
            clear wq1 wq2
            exact ⟨⟨t + 1, by omega, by have := HKT.out; have := HK1.out; simp; omega, by first | exact HF.out | exact HF.out.later (Below.refl _ _).drew⟩, by simp [intOf]; have := HK1.out; have := HKT.out; omega⟩
          · go_simp
            refine hK.out _ _ ?_ (fun hHeld => ?_)
            · trivial
            clear HHeld; have HHeld := Lib.hid hHeld; clear hHeld
            clear hK K
            try simp only [pu, pn, s1, s2, s3]
            refine wpAnyH_ready (rs := [9]) (by kernel_rfl) (by simp) ?_
            refine AllReadyH.cons (o := { dst := some 70, op := Op.load 50 (Operand.tmp 69), type := 50, pos := "zsortanyfunc.go:398", after := #[{ on := 8, ground := Ground.data }], guard := none }) rfl (fun K hK => ?_) AllReadyH.nil
            go_simp
            refine hK.out _ _ ?_ (fun hHeld => ?_)
            · trivial
            clear HHeld; have HHeld := Lib.hid hHeld; clear hHeld
            clear hK K
            try simp only [pu, pn, s1, s2, s3]
            refine wT (i := 14) (oi := { dst := some 75, op := Op.indexAddr 25 (Operand.tmp 61) (Operand.tmp 62), type := 0, pos := "zsortanyfunc.go:398", after := #[{ on := 0, ground := Ground.data }, { on := 1, ground := Ground.data }, { on := 0, ground := Ground.phase }, { on := 1, ground := Ground.phase }, { on := 2, ground := Ground.textOnly Departure.lateStores }, { on := 3, ground := Ground.textOnly Departure.lateStores }, { on := 4, ground := Ground.textOnly Departure.lateStores }, { on := 5, ground := Ground.phase }, { on := 6, ground := Ground.phase }, { on := 7, ground := Ground.phase }, { on := 8, ground := Ground.phase }, { on := 9, ground := Ground.phase }, { on := 10, ground := Ground.textOnly Departure.lateStores }, { on := 11, ground := Ground.textOnly Departure.lateStores }, { on := 12, ground := Ground.textOnly Departure.lateStoresUnsure }, { on := 13, ground := Ground.phase }], guard := none }) (v := ?_) rfl (Or.inl ⟨by rfl, ?_⟩) HHeld.out ?_
            rotate_left
            · intro w hSw; clear hSw; go_simp; try with_reducible rfl
            try simp only [pu, pn, s1, s2, s3]
            refine wpAnyH_ready (rs := [15]) (by kernel_rfl) (by simp) ?_
            refine AllReadyH.cons (o := { dst := none, op := Op.store 50 (Operand.tmp 75) (Operand.tmp 70), type := 0, pos := "zsortanyfunc.go:398", after := #[{ on := 14, ground := Ground.data }, { on := 9, ground := Ground.data }, { on := 0, ground := Ground.phase }, { on := 1, ground := Ground.phase }, { on := 2, ground := Ground.textOnly Departure.lateStores }, { on := 3, ground := Ground.textOnly Departure.lateStores }, { on := 4, ground := Ground.textOnly Departure.lateStores }, { on := 5, ground := Ground.phase }, { on := 6, ground := Ground.phase }, { on := 7, ground := Ground.phase }, { on := 8, ground := Ground.phase }, { on := 9, ground := Ground.phase }, { on := 10, ground := Ground.textOnly Departure.lateStores }, { on := 11, ground := Ground.textOnly Departure.lateStores }, { on := 12, ground := Ground.textOnly Departure.lateStoresUnsure }, { on := 13, ground := Ground.phase }], guard := none }) rfl (fun K hK => ?_) AllReadyH.nil
            go_simp
            generalize hW2 : World.setCell _ _ _ = W2
            have I2 := Lib.hid (show InP w b off ((P ++ V1.take t ++ x :: (V1.drop t ++ (V2 ++ S))).set k y) W2 by rw [← hW2]; exact (HW.out.set (i := k) (by have := HLEN.out; omega) y))
            clear hW2
            obtain ⟨m0, m1, m2, m3, m4, m5⟩ := I2.out.at (i := k1) (x := y) (by rw [List.getElem?_set_ne HNE.out]; exact HGP.out)
            have mf : ∀ q, W2.frozen? ⟨b, q, none⟩ = false := I2.out.frz
            refine hK.out _ _ ?_ (fun hHeld => ?_)
            · trivial
            clear HHeld; have HHeld := Lib.hid hHeld; clear hHeld
            clear hK K
            try simp only [pu, pn, s1, s2, s3]
            refine wT (i := 16) (oi := { dst := some 76, op := Op.indexAddr 25 (Operand.tmp 63) (Operand.tmp 65), type := 0, pos := "zsortanyfunc.go:398", after := #[{ on := 2, ground := Ground.data }, { on := 4, ground := Ground.data }, { on := 0, ground := Ground.phase }, { on := 1, ground := Ground.phase }, { on := 2, ground := Ground.phase }, { on := 3, ground := Ground.phase }, { on := 4, ground := Ground.phase }, { on := 5, ground := Ground.phase }, { on := 6, ground := Ground.phase }, { on := 7, ground := Ground.phase }, { on := 8, ground := Ground.phase }, { on := 9, ground := Ground.phase }, { on := 10, ground := Ground.phase }, { on := 11, ground := Ground.phase }, { on := 12, ground := Ground.phase }, { on := 13, ground := Ground.phase }, { on := 14, ground := Ground.phase }, { on := 15, ground := Ground.phase }], guard := none }) (v := ?_) rfl (Or.inl ⟨by rfl, ?_⟩) HHeld.out ?_
            rotate_left
            · intro w hSw; clear hSw; go_simp; try with_reducible rfl
            try simp only [pu, pn, s1, s2, s3]
            refine wpAnyH_ready (rs := [17]) (by kernel_rfl) (by simp) ?_
            refine AllReadyH.cons (o := { dst := none, op := Op.store 50 (Operand.tmp 76) (Operand.tmp 74), type := 0, pos := "zsortanyfunc.go:398", after := #[{ on := 16, ground := Ground.data }, { on := 13, ground := Ground.data }, { on := 15, ground := Ground.chain }, { on := 0, ground := Ground.phase }, { on := 1, ground := Ground.phase }, { on := 2, ground := Ground.phase }, { on := 3, ground := Ground.phase }, { on := 4, ground := Ground.phase }, { on := 5, ground := Ground.phase }, { on := 6, ground := Ground.phase }, { on := 7, ground := Ground.phase }, { on := 8, ground := Ground.phase }, { on := 9, ground := Ground.phase }, { on := 10, ground := Ground.phase }, { on := 11, ground := Ground.phase }, { on := 12, ground := Ground.phase }, { on := 13, ground := Ground.phase }, { on := 14, ground := Ground.phase }, { on := 15, ground := Ground.phase }], guard := none }) rfl (fun K hK => ?_) AllReadyH.nil
            go_simp
            generalize hW3 : World.setCell _ _ _ = W3
            have I3 := Lib.hid (show InP w b off (((P ++ V1.take t ++ x :: (V1.drop t ++ (V2 ++ S))).set k y).set k1 x) W3 by rw [← hW3]; exact (I2.out.set (i := k1) (by have := HLEN.out; simp only [List.length_set]; omega) x))
            clear hW3
            refine hK.out _ _ ?_ (fun hHeld => ?_)
            · trivial
            clear HHeld; have HHeld := Lib.hid hHeld; clear hHeld
            clear hK K
            try simp only [pu, pn, s1, s2, s3]
            refine wpAnyH_done (by kernel_rfl) ?_ _
            have HF := Lib.hid (show InP w b off (P ++ V1.take (t + 1) ++ x :: (V1.drop (t + 1) ++ (V2 ++ S))) W3 by
              have q := I3.out
              rw [HSW.out] at q
              exact q)
            clear HHeld
            go_wp2
            clear wq1 wq2
            exact ⟨⟨t + 1, by omega, by have := HKT.out; have := HK1.out; simp; omega, by first | exact HF.out | exact HF.out.later (Below.refl _ _).drew⟩, by simp [intOf]; have := HK1.out; have := HKT.out; omega⟩
        · have k1 : ¬ (k : Int) < (z : Int) := by have := HZZ.out; omega
          have HF := Lib.hid (show InP w b off (P ++ stab (x :: V) ++ S) wr by
            have q := HW.out
            have ht2 : t = V1.length := by omega
            rw [ht2, List.take_length, List.drop_length] at q
            rw [← HST.out]
            simpa using q)
          clear HW
          go_wp2
          refine bodyPost_ret (v := .tuple #[]) (by simp [results, Tryz.results102, go_sem]) rfl ⟨rfl, by first | exact HF.out | simpa using HF.out⟩
end Go.Proofs.YtilnpeekajnlhaaGreat
