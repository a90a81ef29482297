/- SymMerge of many and one where the messages lie. -/
import Derived.Test.YtilnpeekajnlhaaGreatTh02
import Derived.Test.YtilnpeekajnlhaaGreatTh23
set_option linter.unusedVariables false
set_option linter.unusedSimpArgs false
namespace Go.Proofs.YtilnpeekajnlhaaGreat
open Go.RowKit Go.Maps
set_option maxRecDepth 100000 in
set_option maxHeartbeats 8000000 in
theorem sym_last (b off n cap a m e lu : Nat) (P U S : List MG) (y : MG) (w : World) (hp : P.length = a) (hlu : U.length = lu) (h1 : a + lu = m) (h2 : m + 1 = e) (h3 : 2 ≤ lu) (hl : (P ++ U ++ y :: S).length = n) (hs : Srt U) (hn : n ≤ 1000) (hnc : n ≤ cap) (hI : InP w b off (P ++ U ++ y :: S) w) :
    Calls Tryz.prog 102 #[.slice (some ⟨b, off, none⟩) n cap, .int .i64 a, .int .i64 m, .int .i64 e, OF] w fun r w' => r = .returned (.tuple #[]) ∧ InP w b off (P ++ stab (U ++ [y]) ++ S) w' := by
  have hen : e ≤ n := by simp only [List.length_append, List.length_cons] at hl; omega
  have q1 : (m : Int) ≤ 1000 := by omega
  have q2 : (e : Int) ≤ 1000 := by omega
  have q3 : (0 : Int) ≤ (m : Int) := by omega
  have q4 : (0 : Int) ≤ (a : Int) := by omega
  have q5 : (a : Int) ≤ (m : Int) := by omega
  have q6 : (m : Int) ≤ (e : Int) := by omega
  have q7 : (0 : Int) ≤ (e : Int) := by omega
  have e1 : (m : Int) - (a : Int) = (lu : Int) := by omega
  have e2 : ((lu : Int) == 1) = false := by rw [beq_eq_false_iff_ne]; omega
  have e2b : ¬ ((lu : Int) = 1) := by omega
  have e3 : (e : Int) - (m : Int) = 1 := by omega
  have HH := Lib.hid (show P.length = a ∧ U.length = lu ∧ a + lu = m ∧ m + 1 = e ∧ 2 ≤ lu from ⟨hp, hlu, h1, h2, h3⟩)
  have HL := Lib.hid hl
  have HS := Lib.hid hs
  have HI := Lib.hid hI
  clear hp h1 h2 h3 hlu hl hs hI
  go_enter Tryz.func102, Tryz.ntmps102
  go_wp2
  go_loopw [14, 15] (fun iv jv wr => ∃ (i j : Nat), a ≤ i ∧ i ≤ j ∧ j ≤ m ∧ iv = .int .i64 i ∧ jv = .int .i64 j ∧ Hid (∀ q u, U[q]? = some u → (a + q < i → aheadM y u = false) ∧ (j ≤ a + q → aheadM y u = true)) ∧ InP w b off (P ++ U ++ y :: S) wr) (fun iv jv _ => (intOf jv).toNat - (intOf iv).toNat)
  case atStart => exact ⟨a, m, by omega, by omega, by omega, rfl, rfl, Lib.hid (fun q u hq => ⟨fun h => by omega, fun h => by have := (List.getElem?_eq_some_iff.1 hq).1; have := HH.out; omega⟩), HI.out⟩
  case round =>
    obtain ⟨i, j, hi, hij, hj, rfl, rfl, HP, hI⟩ := hrel
    have HW := Lib.hid hI
    clear hI
    by_cases h : i < j
    · have z1 : (i : Int) < (j : Int) := by omega
      have z2 : (0 : Int) ≤ (i : Int) := by omega
      have z3 : (0 : Int) ≤ (j : Int) := by omega
      have z4 : (j : Int) ≤ 1000 := by omega
      have z5 : (i : Int) ≤ 1000 := by omega
      obtain ⟨h, hh⟩ : ∃ h, (i + j) / 2 = h := ⟨_, rfl⟩
      have eh : ((i : Int) + (j : Int)) / 2 = (h : Int) := by omega
      have i1 : i ≤ h := by omega
      have i2 : h < j := by omega
      have hmn : m < n := by have := HH.out; omega
      have y1 : (h : Int) < (n : Int) := by omega
      have y2 : (0 : Int) ≤ (h : Int) := by omega
      have y3 : h < n := by omega
      have y4 : (h : Int) ≤ 1000 := by omega
      have y5 : (m : Int) < (n : Int) := by omega
      obtain ⟨g, hg⟩ : ∃ g, a + g = h := ⟨h - a, by omega⟩
      obtain ⟨u, hu⟩ : ∃ u, U[g]? = some u := ⟨_, List.getElem?_eq_getElem (by have := HH.out; omega)⟩
      have HGJ := Lib.hid (show (P ++ U ++ y :: S)[h]? = some u by
        have := HH.out
        rw [List.append_assoc, List.getElem?_append_right (by omega), show h - P.length = g by omega, List.getElem?_append_left (List.getElem?_eq_some_iff.1 hu).1]
        exact hu)
      have HGP := Lib.hid (show (P ++ U ++ y :: S)[m]? = some y by
        have := HH.out
        rw [List.getElem?_append_right (by rw [List.length_append]; omega), List.length_append, show m - (P.length + U.length) = 0 by omega]; rfl)
      have HU := Lib.hid hu
      have HG := Lib.hid hg
      have AA := Lib.hid (order_any y u)
      have HD := Lib.hid (ord_ahead y u)
      obtain ⟨ov, hov⟩ : ∃ ov, ordM y u = ov := ⟨_, rfl⟩
      rw [hov] at AA HD
      have HHJ := Lib.hid (And.intro i1 i2)
      clear hov hh hu hg i1 i2
      obtain ⟨c0, c1, c2, c3, c4, c5⟩ := HW.out.at HGJ.out
      obtain ⟨g0, g1, g2, g3, g4, g5⟩ := HW.out.at HGP.out
      cases haa : aheadM y u
      all_goals
        have HAH := Lib.hid haa
        have hd := HD.out
        rw [haa] at hd
        clear haa
        have KS := Lib.hid (show ∀ W, Below wr.heap.size wr W → Below wr.heap.size wr W ∧ W.cell? ⟨b, off + h * 6, none⟩ = some (.int .u8 u.kd) ∧ W.cell? ⟨b, off + h * 6 + 1, none⟩ = some (.int .i64 u.sq) ∧ W.cell? ⟨b, off + h * 6 + 2, none⟩ = some (.string u.ky) ∧ W.cell? ⟨b, off + h * 6 + 3, none⟩ = some (.string u.to) ∧ W.cell? ⟨b, off + h * 6 + 4, none⟩ = some (.string u.vl) ∧ W.cell? ⟨b, off + h * 6 + 5, none⟩ = some (.int .u64 u.dl) ∧ W.cell? ⟨b, off + m * 6, none⟩ = some (.int .u8 y.kd) ∧ W.cell? ⟨b, off + m * 6 + 1, none⟩ = some (.int .i64 y.sq) ∧ W.cell? ⟨b, off + m * 6 + 2, none⟩ = some (.string y.ky) ∧ W.cell? ⟨b, off + m * 6 + 3, none⟩ = some (.string y.to) ∧ W.cell? ⟨b, off + m * 6 + 4, none⟩ = some (.string y.vl) ∧ W.cell? ⟨b, off + m * 6 + 5, none⟩ = some (.int .u64 y.dl) from fun W h => ⟨h, bel_later h c0, bel_later h c1, bel_later h c2, bel_later h c3, bel_later h c4, bel_later h c5, bel_later h g0, bel_later h g1, bel_later h g2, bel_later h g3, bel_later h g4, bel_later h g5⟩)
        go_wp2_with fail
        clear c0 c1 c2 c3 c4 c5 g0 g1 g2 g3 g4 g5
        go_region_held3 (fun W => Below wr.heap.size wr W ∧ W.cell? ⟨b, off + h * 6, none⟩ = some (.int .u8 u.kd) ∧ W.cell? ⟨b, off + h * 6 + 1, none⟩ = some (.int .i64 u.sq) ∧ W.cell? ⟨b, off + h * 6 + 2, none⟩ = some (.string u.ky) ∧ W.cell? ⟨b, off + h * 6 + 3, none⟩ = some (.string u.to) ∧ W.cell? ⟨b, off + h * 6 + 4, none⟩ = some (.string u.vl) ∧ W.cell? ⟨b, off + h * 6 + 5, none⟩ = some (.int .u64 u.dl) ∧ W.cell? ⟨b, off + m * 6, none⟩ = some (.int .u8 y.kd) ∧ W.cell? ⟨b, off + m * 6 + 1, none⟩ = some (.int .i64 y.sq) ∧ W.cell? ⟨b, off + m * 6 + 2, none⟩ = some (.string y.ky) ∧ W.cell? ⟨b, off + m * 6 + 3, none⟩ = some (.string y.to) ∧ W.cell? ⟨b, off + m * 6 + 4, none⟩ = some (.string y.vl) ∧ W.cell? ⟨b, off + m * 6 + 5, none⟩ = some (.int .u64 y.dl)) (first | exact KS.out _ ((Below.refl _ _).drew) | exact KS.out _ (bel_trans (And.left ‹_›) ‹_›) | (trace_state; fail)) (first
          | (go_at_call 61; ((with_reducible refine (AA.out _).mono ?_); rintro e w1 ⟨rfl, b1⟩)))
        rename_i hH
        have HW1 := Lib.hid (HW.out.later hH.1)
        clear hH
      · go_wp2
        exact ⟨⟨h + 1, j, by have := HHJ.out; omega, by have := HHJ.out; omega, hj, by simp, rfl, Lib.hid (fun q v hq => ⟨fun k => nahead_trans (srt_get HS.out (by have := HG.out; omega) hq HU.out) HAH.out, fun k => (HP.out q v hq).2 k⟩), HW1.out⟩, by simp [intOf]; have := HHJ.out; omega⟩
      · go_wp2
        exact ⟨⟨i, h, hi, HHJ.out.1, by have := HHJ.out; omega, rfl, rfl, Lib.hid (fun q v hq => ⟨fun k => (HP.out q v hq).1 k, fun k => ahead_le HAH.out (srt_get HS.out (by have := HG.out; omega) HU.out hq)⟩), HW1.out⟩, by simp [intOf]; have := HHJ.out; omega⟩
    · have z1 : ¬ (i : Int) < (j : Int) := by omega
      have hij2 : j = i := by omega
      obtain ⟨U1, hU1⟩ : ∃ U1, U.take (i - a) = U1 := ⟨_, rfl⟩
      obtain ⟨U2, hU2⟩ : ∃ U2, U.drop (i - a) = U2 := ⟨_, rfl⟩
      have hUU : U1 ++ U2 = U := by rw [← hU1, ← hU2, List.take_append_drop]
      have hl1 : U1.length = i - a := by rw [← hU1, List.length_take]; have := HH.out; omega
      have hl2 : U2.length = m - i := by rw [← hU2, List.length_drop]; have := HH.out; omega
      have a1 : ∀ v ∈ U1, aheadM y v = false := fun v hv => by
        rw [← hU1] at hv
        obtain ⟨q, hq1, hq2⟩ := take_mem hv
        exact (HP.out q v hq2).1 (by omega)
      have a2 : ∀ v ∈ U2, aheadM y v = true := fun v hv => by
        rw [← hU2] at hv
        obtain ⟨q, hq1, hq2, hq3⟩ := drop_mem hv
        exact (HP.out q v hq3).2 (by omega)
      have HST := Lib.hid (show U1 ++ y :: U2 = stab (U ++ [y]) by
        rw [← hUU]
        exact (last_in (by rw [hUU]; exact HS.out) a1 a2))
      have HW0 := Lib.hid (show InP w b off (P ++ U1 ++ U2.take U2.length ++ y :: (U2.drop U2.length ++ S)) wr by
        have z := HW.out
        rw [← hUU] at z
        rw [List.take_length, List.drop_length]
        simpa using z)
      have HLL := Lib.hid (show (P ++ U1 ++ U2 ++ y :: S).length = n by
        have z := HL.out
        rw [← hUU] at z
        simpa using z)
      have HUL := Lib.hid (show U1.length + a = i ∧ U2.length + i = m by omega)
      have x1 : (0 : Int) ≤ (i : Int) := by omega
      have x2 : (i : Int) ≤ 1000 := by omega
      clear hU1 hU2 hUU hl1 hl2 a1 a2 HW HP hij2
      go_wp2
      go_loopw [17] (fun kv wr => ∃ (t : Nat), t ≤ U2.length ∧ kv = .int .i64 ((i + t : Nat) : Int) ∧ InP w b off (P ++ U1 ++ U2.take t ++ y :: (U2.drop t ++ S)) wr) (fun kv _ => (intOf kv).toNat)
      case atStart => exact ⟨U2.length, Nat.le_refl _, by have := HUL.out; simp; omega, HW0.out⟩
      case round =>
        clear HW0
        obtain ⟨t, ht, rfl, hI⟩ := hrel
        have HW := Lib.hid hI
        clear hI
        obtain ⟨k, hk⟩ : ∃ k, i + t = k := ⟨_, rfl⟩
        rw [hk]
        have HKT := Lib.hid hk
        by_cases h8 : 0 < t
        · have k1 : (i : Int) < (k : Int) := by omega
          obtain ⟨t2, ht2⟩ : ∃ t2, t = t2 + 1 := ⟨t - 1, by omega⟩
          obtain ⟨p, hp⟩ : ∃ p, k = p + 1 := ⟨k - 1, by omega⟩
          have hmn : m < n := by have := HH.out; omega
          have n1 : (k : Int) - 1 = (p : Int) := by omega
          have n2 : k < n := by have := HUL.out; omega
          have n3 : (k : Int) < (n : Int) := by omega
          have n4 : (0 : Int) ≤ (k : Int) := by omega
          have n5 : (p : Int) < (n : Int) := by omega
          have n6 : p < n := by omega
          have n7 : (0 : Int) ≤ (p : Int) := by omega
          have n8 : (1 : Int) ≤ (k : Int) := by omega
          have n9 : (k : Int) < (n : Int) + 1 := by omega
          have wq1 : IntKind.i64.wrap ((k : Int) - 1) = (k : Int) - 1 := IntWalk.i64_in _ (by omega)
          have wq2 : IntKind.i64.wrap (p : Int) = (p : Int) := IntWalk.i64_in _ (by omega)
          obtain ⟨u, hu⟩ : ∃ u, U2[t2]? = some u := ⟨_, List.getElem?_eq_getElem (by omega)⟩
          have hdk : U2.drop t2 = u :: U2.drop t := by
            obtain ⟨h1, h2⟩ := List.getElem?_eq_some_iff.1 hu
            rw [← h2, ht2]; exact List.drop_eq_getElem_cons h1
          have htk : U2.take t = U2.take t2 ++ [u] := by rw [ht2, List.take_add_one, hu]; rfl
          have hla : (P ++ U1 ++ U2.take t2).length = p := by simp only [List.length_append, List.length_take]; have := HH.out; have := HUL.out; omega
          have hform : P ++ U1 ++ U2.take t ++ y :: (U2.drop t ++ S) = (P ++ U1 ++ U2.take t2) ++ u :: y :: (U2.drop t ++ S) := by rw [htk]; simp
          have HGJ := Lib.hid (show (P ++ U1 ++ U2.take t ++ y :: (U2.drop t ++ S))[k]? = some y by rw [hform, List.getElem?_append_right (by omega), hla, show k - p = 0 + 1 by omega]; simp)
          have HGP := Lib.hid (show (P ++ U1 ++ U2.take t ++ y :: (U2.drop t ++ S))[p]? = some u by rw [hform, List.getElem?_append_right (by omega), hla]; simp)
          have HSW := Lib.hid (show (((P ++ U1 ++ U2.take t ++ y :: (U2.drop t ++ S)).set k u).set p y) = P ++ U1 ++ U2.take t2 ++ y :: (U2.drop t2 ++ S) by
            have q := swap_down (P ++ U1 ++ U2.take t2) (U2.drop t ++ S) y u
            rw [hla, ← hp] at q
            rw [hform, q, hdk]; simp)
          have HLEN := Lib.hid (show (P ++ U1 ++ U2.take t ++ y :: (U2.drop t ++ S)).length = n by
            have z := HLL.out
            simp only [List.length_append, List.length_cons, List.length_take, List.length_drop] at z ⊢
            omega)
          have HNE := Lib.hid (show k ≠ p by omega)
          have HTT := Lib.hid ht2
          have HPK := Lib.hid hp
          clear hu hdk htk hla hform hk hp ht2
          obtain ⟨c0, c1, c2, c3, c4, c5⟩ := HW.out.at HGJ.out
          obtain ⟨g0, g1, g2, g3, g4, g5⟩ := HW.out.at HGP.out
          have hfz : ∀ q, wr.frozen? ⟨b, q, none⟩ = false := HW.out.frz
          go_wp2_with fail
          refine wp_region_held_drew (S := (fun V : World => True)) (by kernel_rfl) ?_ (fun hHeld => ?_)
          · trivial
          have HHeld := Lib.hid hHeld; clear hHeld
          refine wT (i := 0) (oi := { dst := some 113, op := Op.move (Operand.tmp 0), type := 25, pos := "zsortanyfunc.go:422", after := #[], guard := none }) (v := ?_) rfl (Or.inl ⟨by rfl, ?_⟩) HHeld.out ?_
          rotate_left
          · intro w hSw; clear hSw; go_simp; try with_reducible rfl
          try simp only [pu, pn, s1, s2, s3]
          refine wT (i := 1) (oi := { dst := some 114, op := Op.move (Operand.tmp 17), type := 3, pos := "zsortanyfunc.go:422", after := #[], guard := none }) (v := ?_) rfl (Or.inl ⟨by rfl, ?_⟩) HHeld.out ?_
          rotate_left
          · intro w hSw; clear hSw; go_simp; try with_reducible rfl
          try simp only [pu, pn, s1, s2, s3]
          refine wT (i := 2) (oi := { dst := some 115, op := Op.move (Operand.tmp 0), type := 25, pos := "zsortanyfunc.go:422", after := #[{ on := 15, ground := Ground.gcOnly Departure.lateStores }], guard := none }) (v := ?_) rfl (Or.inl ⟨by rfl, ?_⟩) HHeld.out ?_
          rotate_left
          · intro w hSw; clear hSw; go_simp; try with_reducible rfl
          try simp only [pu, pn, s1, s2, s3]
          refine wT (i := 3) (oi := { dst := some 116, op := Op.move (Operand.tmp 17), type := 3, pos := "zsortanyfunc.go:422", after := #[{ on := 15, ground := Ground.gcOnly Departure.lateStores }], guard := none }) (v := ?_) rfl (Or.inl ⟨by rfl, ?_⟩) HHeld.out ?_
          rotate_left
          · intro w hSw; clear hSw; go_simp; try with_reducible rfl
          try simp only [pu, pn, s1, s2, s3]
          refine wT (i := 4) (oi := { dst := some 117, op := Op.binOp BinOp.sub 3 (Operand.tmp 116) (Operand.const (Value.int IntKind.i64 1)) 3, type := 3, pos := "zsortanyfunc.go:422", after := #[{ on := 3, ground := Ground.data }, { on := 15, ground := Ground.gcOnly Departure.lateStores }], guard := none }) (v := ?_) rfl (Or.inl ⟨by rfl, ?_⟩) HHeld.out ?_
          rotate_left
          · intro w hSw; clear hSw; go_simp; try with_reducible rfl
          try simp only [pu, pn, s1, s2, s3]
          refine wT (i := 5) (oi := { dst := some 118, op := Op.move (Operand.tmp 0), type := 25, pos := "zsortanyfunc.go:422", after := #[], guard := none }) (v := ?_) rfl (Or.inl ⟨by rfl, ?_⟩) HHeld.out ?_
          rotate_left
          · intro w hSw; clear hSw; go_simp; try with_reducible rfl
          try simp only [pu, pn, s1, s2, s3]
          refine wT (i := 6) (oi := { dst := some 119, op := Op.move (Operand.tmp 17), type := 3, pos := "zsortanyfunc.go:422", after := #[], guard := none }) (v := ?_) rfl (Or.inl ⟨by rfl, ?_⟩) HHeld.out ?_
          rotate_left
          · intro w hSw; clear hSw; go_simp; try with_reducible rfl
          try simp only [pu, pn, s1, s2, s3]
          refine wT (i := 7) (oi := { dst := some 120, op := Op.binOp BinOp.sub 3 (Operand.tmp 119) (Operand.const (Value.int IntKind.i64 1)) 3, type := 3, pos := "zsortanyfunc.go:422", after := #[{ on := 6, ground := Ground.data }], guard := none }) (v := ?_) rfl (Or.inl ⟨by rfl, ?_⟩) HHeld.out ?_
          rotate_left
          · intro w hSw; clear hSw; go_simp; try with_reducible rfl
          try simp only [pu, pn, s1, s2, s3]
          refine wT (i := 8) (oi := { dst := some 121, op := Op.indexAddr 25 (Operand.tmp 118) (Operand.tmp 120), type := 0, pos := "zsortanyfunc.go:422", after := #[{ on := 5, ground := Ground.data }, { on := 7, ground := Ground.data }], guard := none }) (v := ?_) rfl (Or.inl ⟨by rfl, ?_⟩) HHeld.out ?_
          rotate_left
          · intro w hSw; clear hSw; go_simp; try with_reducible rfl
          try simp only [pu, pn, s1, s2, s3]
          refine wT (i := 10) (oi := { dst := some 123, op := Op.move (Operand.tmp 0), type := 25, pos := "zsortanyfunc.go:422", after := #[], guard := none }) (v := ?_) rfl (Or.inl ⟨by rfl, ?_⟩) HHeld.out ?_
          rotate_left
          · intro w hSw; clear hSw; go_simp; try with_reducible rfl
          try simp only [pu, pn, s1, s2, s3]
          refine wT (i := 11) (oi := { dst := some 124, op := Op.move (Operand.tmp 17), type := 3, pos := "zsortanyfunc.go:422", after := #[], guard := none }) (v := ?_) rfl (Or.inl ⟨by rfl, ?_⟩) HHeld.out ?_
          rotate_left
          · intro w hSw; clear hSw; go_simp; try with_reducible rfl
          try simp only [pu, pn, s1, s2, s3]
          refine wT (i := 12) (oi := { dst := some 125, op := Op.indexAddr 25 (Operand.tmp 123) (Operand.tmp 124), type := 0, pos := "zsortanyfunc.go:422", after := #[{ on := 10, ground := Ground.data }, { on := 11, ground := Ground.data }], guard := none }) (v := ?_) rfl (Or.inl ⟨by rfl, ?_⟩) HHeld.out ?_
          rotate_left
          · intro w hSw; clear hSw; go_simp; try with_reducible rfl
          try simp only [pu, pn, s1, s2, s3]
          refine wpAnyH_ready (rs := [9, 13]) (by kernel_rfl) (by simp) ?_
          refine AllReadyH.cons (o := { dst := some 122, op := Op.load 50 (Operand.tmp 121), type := 50, pos := "zsortanyfunc.go:422", after := #[{ on := 8, ground := Ground.data }], guard := none }) rfl (fun K hK => ?_) (AllReadyH.cons (o := { dst := some 126, op := Op.load 50 (Operand.tmp 125), type := 50, pos := "zsortanyfunc.go:422", after := #[{ on := 12, ground := Ground.data }], guard := none }) rfl (fun K hK => ?_) AllReadyH.nil)
          · go_simp
            refine hK.out _ _ ?_ (fun hHeld => ?_)
            · trivial
            clear HHeld; have HHeld := Lib.hid hHeld; clear hHeld
            clear hK K
            try simp only [pu, pn, s1, s2, s3]
            refine wpAnyH_ready (rs := [13]) (by kernel_rfl) (by simp) ?_
            refine AllReadyH.cons (o := { dst := some 126, op := Op.load 50 (Operand.tmp 125), type := 50, pos := "zsortanyfunc.go:422", after := #[{ on := 12, ground := Ground.data }], guard := none }) rfl (fun K hK => ?_) AllReadyH.nil
            go_simp
            refine hK.out _ _ ?_ (fun hHeld => ?_)
            · trivial
            clear HHeld; have HHeld := Lib.hid hHeld; clear hHeld
            clear hK K
            try simp only [pu, pn, s1, s2, s3]
            refine wT (i := 14) (oi := { dst := some 127, op := Op.indexAddr 25 (Operand.tmp 113) (Operand.tmp 114), type := 0, pos := "zsortanyfunc.go:422", after := #[{ on := 0, ground := Ground.data }, { on := 1, ground := Ground.data }, { on := 0, ground := Ground.phase }, { on := 1, ground := Ground.phase }, { on := 2, ground := Ground.textOnly Departure.lateStores }, { on := 3, ground := Ground.textOnly Departure.lateStores }, { on := 4, ground := Ground.textOnly Departure.lateStores }, { on := 5, ground := Ground.phase }, { on := 6, ground := Ground.phase }, { on := 7, ground := Ground.phase }, { on := 8, ground := Ground.phase }, { on := 9, ground := Ground.phase }, { on := 10, ground := Ground.textOnly Departure.lateStores }, { on := 11, ground := Ground.textOnly Departure.lateStores }, { on := 12, ground := Ground.textOnly Departure.lateStoresUnsure }, { on := 13, ground := Ground.phase }], guard := none }) (v := ?_) rfl (Or.inl ⟨by rfl, ?_⟩) HHeld.out ?_
            rotate_left
            · intro w hSw; clear hSw; go_simp; try with_reducible rfl
            try simp only [pu, pn, s1, s2, s3]
            refine wpAnyH_ready (rs := [15]) (by kernel_rfl) (by simp) ?_
            refine AllReadyH.cons (o := { dst := none, op := Op.store 50 (Operand.tmp 127) (Operand.tmp 122), type := 0, pos := "zsortanyfunc.go:422", after := #[{ on := 14, ground := Ground.data }, { on := 9, ground := Ground.data }, { on := 0, ground := Ground.phase }, { on := 1, ground := Ground.phase }, { on := 2, ground := Ground.textOnly Departure.lateStores }, { on := 3, ground := Ground.textOnly Departure.lateStores }, { on := 4, ground := Ground.textOnly Departure.lateStores }, { on := 5, ground := Ground.phase }, { on := 6, ground := Ground.phase }, { on := 7, ground := Ground.phase }, { on := 8, ground := Ground.phase }, { on := 9, ground := Ground.phase }, { on := 10, ground := Ground.textOnly Departure.lateStores }, { on := 11, ground := Ground.textOnly Departure.lateStores }, { on := 12, ground := Ground.textOnly Departure.lateStoresUnsure }, { on := 13, ground := Ground.phase }], guard := none }) rfl (fun K hK => ?_) AllReadyH.nil
            go_simp
            generalize hW2 : World.setCell _ _ _ = W2
            have I2 := Lib.hid (show InP w b off ((P ++ U1 ++ U2.take t ++ y :: (U2.drop t ++ S)).set k u) W2 by rw [← hW2]; exact (HW.out.set (i := k) (by have := HLEN.out; omega) u))
            clear hW2
            obtain ⟨m0, m1, m2, m3, m4, m5⟩ := I2.out.at (i := p) (x := u) (by rw [List.getElem?_set_ne HNE.out]; exact HGP.out)
            have mf : ∀ q, W2.frozen? ⟨b, q, none⟩ = false := I2.out.frz
            refine hK.out _ _ ?_ (fun hHeld => ?_)
            · trivial
            clear HHeld; have HHeld := Lib.hid hHeld; clear hHeld
            clear hK K
            try simp only [pu, pn, s1, s2, s3]
            refine wT (i := 16) (oi := { dst := some 128, op := Op.indexAddr 25 (Operand.tmp 115) (Operand.tmp 117), type := 0, pos := "zsortanyfunc.go:422", after := #[{ on := 2, ground := Ground.data }, { on := 4, ground := Ground.data }, { on := 0, ground := Ground.phase }, { on := 1, ground := Ground.phase }, { on := 2, ground := Ground.phase }, { on := 3, ground := Ground.phase }, { on := 4, ground := Ground.phase }, { on := 5, ground := Ground.phase }, { on := 6, ground := Ground.phase }, { on := 7, ground := Ground.phase }, { on := 8, ground := Ground.phase }, { on := 9, ground := Ground.phase }, { on := 10, ground := Ground.phase }, { on := 11, ground := Ground.phase }, { on := 12, ground := Ground.phase }, { on := 13, ground := Ground.phase }, { on := 14, ground := Ground.phase }, { on := 15, ground := Ground.phase }], guard := none }) (v := ?_) rfl (Or.inl ⟨by rfl, ?_⟩) HHeld.out ?_
            rotate_left
            · intro w hSw; clear hSw; go_simp; try with_reducible rfl
            try simp only [pu, pn, s1, s2, s3]
            refine wpAnyH_ready (rs := [17]) (by kernel_rfl) (by simp) ?_
            refine AllReadyH.cons (o := { dst := none, op := Op.store 50 (Operand.tmp 128) (Operand.tmp 126), type := 0, pos := "zsortanyfunc.go:422", after := #[{ on := 16, ground := Ground.data }, { on := 13, ground := Ground.data }, { on := 15, ground := Ground.chain }, { on := 0, ground := Ground.phase }, { on := 1, ground := Ground.phase }, { on := 2, ground := Ground.phase }, { on := 3, ground := Ground.phase }, { on := 4, ground := Ground.phase }, { on := 5, ground := Ground.phase }, { on := 6, ground := Ground.phase }, { on := 7, ground := Ground.phase }, { on := 8, ground := Ground.phase }, { on := 9, ground := Ground.phase }, { on := 10, ground := Ground.phase }, { on := 11, ground := Ground.phase }, { on := 12, ground := Ground.phase }, { on := 13, ground := Ground.phase }, { on := 14, ground := Ground.phase }, { on := 15, ground := Ground.phase }], guard := none }) rfl (fun K hK => ?_) AllReadyH.nil
            go_simp
            generalize hW3 : World.setCell _ _ _ = W3
            have I3 := Lib.hid (show InP w b off (((P ++ U1 ++ U2.take t ++ y :: (U2.drop t ++ S)).set k u).set p y) W3 by rw [← hW3]; exact (I2.out.set (i := p) (by have := HLEN.out; simp only [List.length_set]; omega) y))
            clear hW3
            refine hK.out _ _ ?_ (fun hHeld => ?_)
            · trivial
            clear HHeld; have HHeld := Lib.hid hHeld; clear hHeld
            clear hK K
            try simp only [pu, pn, s1, s2, s3]
            refine wpAnyH_done (by kernel_rfl) ?_ _
            have HF := Lib.hid (show InP w b off (P ++ U1 ++ U2.take t2 ++ y :: (U2.drop t2 ++ S)) W3 by
              have q := I3.out
              rw [HSW.out] at q
              exact q)
            clear HHeld
            go_wp2
            clear wq1 wq2
            exact ⟨⟨t2, by have := HTT.out; omega, by have := HTT.out; have := HKT.out; have := HPK.out; simp; omega, by first | exact HF.out | exact HF.out.later (Below.refl _ _).drew⟩, by simp [intOf]; have := HPK.out; omega⟩
          · go_simp
            refine hK.out _ _ ?_ (fun hHeld => ?_)
            · trivial
            clear HHeld; have HHeld := Lib.hid hHeld; clear hHeld
            clear hK K
            try simp only [pu, pn, s1, s2, s3]
            refine wpAnyH_ready (rs := [9]) (by kernel_rfl) (by simp) ?_
            refine AllReadyH.cons (o := { dst := some 122, op := Op.load 50 (Operand.tmp 121), type := 50, pos := "zsortanyfunc.go:422", after := #[{ on := 8, ground := Ground.data }], guard := none }) rfl (fun K hK => ?_) AllReadyH.nil
            go_simp
            refine hK.out _ _ ?_ (fun hHeld => ?_)
            · trivial
            clear HHeld; have HHeld := Lib.hid hHeld; clear hHeld
            clear hK K
            try simp only [pu, pn, s1, s2, s3]
            refine wT (i := 14) (oi := { dst := some 127, op := Op.indexAddr 25 (Operand.tmp 113) (Operand.tmp 114), type := 0, pos := "zsortanyfunc.go:422", after := #[{ on := 0, ground := Ground.data }, { on := 1, ground := Ground.data }, { on := 0, ground := Ground.phase }, { on := 1, ground := Ground.phase }, { on := 2, ground := Ground.textOnly Departure.lateStores }, { on := 3, ground := Ground.textOnly Departure.lateStores }, { on := 4, ground := Ground.textOnly Departure.lateStores }, { on := 5, ground := Ground.phase }, { on := 6, ground := Ground.phase }, { on := 7, ground := Ground.phase }, { on := 8, ground := Ground.phase }, { on := 9, ground := Ground.phase }, { on := 10, ground := Ground.textOnly Departure.lateStores }, { on := 11, ground := Ground.textOnly Departure.lateStores }, { on := 12, ground := Ground.textOnly Departure.lateStoresUnsure }, { on := 13, ground := Ground.phase }], guard := none }) (v := ?_) rfl (Or.inl ⟨by rfl, ?_⟩) HHeld.out ?_
            rotate_left
            · intro w hSw; clear hSw; go_simp; try with_reducible rfl
            try simp only [pu, pn, s1, s2, s3]
            refine wpAnyH_ready (rs := [15]) (by kernel_rfl) (by simp) ?_
            refine AllReadyH.cons (o := { dst := none, op := Op.store 50 (Operand.tmp 127) (Operand.tmp 122), type := 0, pos := "zsortanyfunc.go:422", after := #[{ on := 14, ground := Ground.data }, { on := 9, ground := Ground.data }, { on := 0, ground := Ground.phase }, { on := 1, ground := Ground.phase }, { on := 2, ground := Ground.textOnly Departure.lateStores }, { on := 3, ground := Ground.textOnly Departure.lateStores }, { on := 4, ground := Ground.textOnly Departure.lateStores }, { on := 5, ground := Ground.phase }, { on := 6, ground := Ground.phase }, { on := 7, ground := Ground.phase }, { on := 8, ground := Ground.phase }, { on := 9, ground := Ground.phase }, { on := 10, ground := Ground.textOnly Departure.lateStores }, { on := 11, ground := Ground.textOnly Departure.lateStores }, { on := 12, ground := Ground.textOnly Departure.lateStoresUnsure }, { on := 13, ground := Ground.phase }], guard := none }) rfl (fun K hK => ?_) AllReadyH.nil
            go_simp
            generalize hW2 : World.setCell _ _ _ = W2
            have I2 := Lib.hid (show InP w b off ((P ++ U1 ++ U2.take t ++ y :: (U2.drop t ++ S)).set k u) W2 by rw [← hW2]; exact (HW.out.set (i := k) (by have := HLEN.out; omega) u))
            clear hW2
            obtain ⟨m0, m1, m2, m3, m4, m5⟩ := I2.out.at (i := p) (x := u) (by rw [List.getElem?_set_ne HNE.out]; exact HGP.out)
            have mf : ∀ q, W2.frozen? ⟨b, q, none⟩ = false := I2.out.frz
            refine hK.out _ _ ?_ (fun hHeld => ?_)
            · trivial
            clear HHeld; have HHeld := Lib.hid hHeld; clear hHeld
            clear hK K
            try simp only [pu, pn, s1, s2, s3]
            refine wT (i := 16) (oi := { dst := some 128, op := Op.indexAddr 25 (Operand.tmp 115) (Operand.tmp 117), type := 0, pos := "zsortanyfunc.go:422", after := #[{ on := 2, ground := Ground.data }, { on := 4, ground := Ground.data }, { on := 0, ground := Ground.phase }, { on := 1, ground := Ground.phase }, { on := 2, ground := Ground.phase }, { on := 3, ground := Ground.phase }, { on := 4, ground := Ground.phase }, { on := 5, ground := Ground.phase }, { on := 6, ground := Ground.phase }, { on := 7, ground := Ground.phase }, { on := 8, ground := Ground.phase }, { on := 9, ground := Ground.phase }, { on := 10, ground := Ground.phase }, { on := 11, ground := Ground.phase }, { on := 12, ground := Ground.phase }, { on := 13, ground := Ground.phase }, { on := 14, ground := Ground.phase }, { on := 15, ground := Ground.phase }], guard := none }) (v := ?_) rfl (Or.inl ⟨by rfl, ?_⟩) HHeld.out ?_
            rotate_left
            · intro w hSw; clear hSw; go_simp; try with_reducible rfl
            try simp only [pu, pn, s1, s2, s3]
            refine wpAnyH_ready (rs := [17]) (by kernel_rfl) (by simp) ?_
            refine AllReadyH.cons (o := { dst := none, op := Op.store 50 (Operand.tmp 128) (Operand.tmp 126), type := 0, pos := "zsortanyfunc.go:422", after := #[{ on := 16, ground := Ground.data }, { on := 13, ground := Ground.data }, { on := 15, ground := Ground.chain }, { on := 0, ground := Ground.phase }, { on := 1, ground := Ground.phase }, { on := 2, ground := Ground.phase }, { on := 3, ground := Ground.phase }, { on := 4, ground := Ground.phase }, { on := 5, ground := Ground.phase }, { on := 6, ground := Ground.phase }, { on := 7, ground := Ground.phase }, { on := 8, ground := Ground.phase }, { on := 9, ground := Ground.phase }, { on := 10, ground := Ground.phase }, { on := 11, ground := Ground.phase }, { on := 12, ground := Ground.phase }, { on := 13, ground := Ground.phase }, { on := 14, ground := Ground.phase }, { on := 15, ground := Ground.phase }], guard := none }) rfl (fun K hK => ?_) AllReadyH.nil
            go_simp
            generalize hW3 : World.setCell _ _ _ = W3
            have I3 := Lib.hid (show InP w b off (((P ++ U1 ++ U2.take t ++ y :: (U2.drop t ++ S)).set k u).set p y) W3 by rw [← hW3]; exact (I2.out.set (i := p) (by have := HLEN.out; simp only [List.length_set]; omega) y))
            clear hW3
            refine hK.out _ _ ?_ (fun hHeld => ?_)
            · trivial
            clear HHeld; have HHeld := Lib.hid hHeld; clear hHeld
            clear hK K
            try simp only [pu, pn, s1, s2, s3]
            refine wpAnyH_done (by kernel_rfl) ?_ _
            have HF := Lib.hid (show InP w b off (P ++ U1 ++ U2.take t2 ++ y :: (U2.drop t2 ++ S)) W3 by
              have q := I3.out
              rw [HSW.out] at q
              exact q)
            clear HHeld
            go_wp2
            clear wq1 wq2
            exact ⟨⟨t2, by have := HTT.out; omega, by have := HTT.out; have := HKT.out; have := HPK.out; simp; omega, by first | exact HF.out | exact HF.out.later (Below.refl _ _).drew⟩, by simp [intOf]; have := HPK.out; omega⟩
        · have k1 : ¬ (i : Int) < (k : Int) := by omega
          have HF := Lib.hid (show InP w b off (P ++ stab (U ++ [y]) ++ S) wr by
            have q := HW.out
            have ht2 : t = 0 := by omega
            rw [ht2] at q
            rw [← HST.out]
            simpa using q)
          clear HW
          go_wp2
          refine bodyPost_ret (v := .tuple #[]) (by simp [results, Tryz.results102, go_sem]) rfl ⟨rfl, by first | exact HF.out | simpa using HF.out⟩
end Go.Proofs.YtilnpeekajnlhaaGreat
