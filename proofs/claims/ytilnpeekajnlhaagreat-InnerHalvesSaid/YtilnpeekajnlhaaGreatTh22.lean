/- Ranges of messages change places where they lie. -/
import Derived.Test.YtilnpeekajnlhaaGreatTh02
import Derived.Test.YtilnpeekajnlhaaGreatTh21
set_option linter.unusedVariables false
set_option linter.unusedSimpArgs false
namespace Go.Proofs.YtilnpeekajnlhaaGreat
open Go.RowKit Go.Maps
theorem swap_two (A B C : List MG) (u v : MG) : ((A ++ u :: (B ++ v :: C)).set A.length v).set (A.length + 1 + B.length) u = A ++ v :: (B ++ u :: C) := by
  rw [List.set_append_right _ _ (by omega), List.set_append_right _ _ (by omega)]
  have e : A.length + 1 + B.length - A.length = B.length + 1 := by omega
  rw [e, Nat.sub_self, List.set_cons_zero, List.set_cons_succ, List.set_append_right _ _ (by omega)]
  simp
set_option maxRecDepth 100000 in
set_option maxHeartbeats 8000000 in
theorem swapR_any (b off n cap a c k : Nat) (P U Q V S : List MG) (w : World) (hl : (P ++ U ++ Q ++ V ++ S).length = n) (ha : P.length = a) (hU : U.length = k) (hV : V.length = k) (hc : a + k + Q.length = c) (hn : n ≤ 1000) (hnc : n ≤ cap) (hI : InP w b off (P ++ U ++ Q ++ V ++ S) w) :
    Calls Tryz.prog 104 #[.slice (some ⟨b, off, none⟩) n cap, .int .i64 a, .int .i64 c, .int .i64 k, OF] w fun r w' => r = .returned (.tuple #[]) ∧ InP w b off (P ++ V ++ Q ++ U ++ S) w' := by
  have hcn : c + k ≤ n := by simp only [List.length_append] at hl; omega
  have HA := Lib.hid ha
  have HU := Lib.hid hU
  have HV := Lib.hid hV
  have HC := Lib.hid hc
  have HL := Lib.hid hl
  have HI := Lib.hid hI
  clear hl ha hU hV hc hI
  go_enter Tryz.func104, Tryz.ntmps104
  go_wp2
  go_loopw [10] (fun iv wr => ∃ (i : Nat), i ≤ k ∧ iv = .int .i64 i ∧ InP w b off (P ++ (V.take i ++ U.drop i) ++ Q ++ (U.take i ++ V.drop i) ++ S) wr) (fun iv _ => k - (intOf iv).toNat)
  case atStart => exact ⟨0, by omega, rfl, by simpa using HI.out⟩
  case round =>
    obtain ⟨i, hi, rfl, hI⟩ := hrel
    have HW := Lib.hid hI
    clear hI
    by_cases h8 : i < k
    · have hk1 : (i : Int) < (k : Int) := by omega
      have hi0 : (0 : Int) ≤ (i : Int) := by omega
      obtain ⟨x1, hx1⟩ : ∃ x1, a + i = x1 := ⟨_, rfl⟩
      obtain ⟨x2, hx2⟩ : ∃ x2, c + i = x2 := ⟨_, rfl⟩
      have hac : a + k ≤ c := by have := HC.out; omega
      have e1 : (a : Int) + (i : Int) = (x1 : Int) := by omega
      have e2 : (c : Int) + (i : Int) = (x2 : Int) := by omega
      have y1 : x1 < n := by omega
      have y2 : x2 < n := by omega
      have y3 : (x1 : Int) < (n : Int) := by omega
      have y4 : (x2 : Int) < (n : Int) := by omega
      have y5 : (0 : Int) ≤ (x1 : Int) := by omega
      have y6 : (0 : Int) ≤ (x2 : Int) := by omega
      have wq1 : IntKind.i64.wrap ((a : Int) + (i : Int)) = (a : Int) + (i : Int) := IntWalk.i64_in _ (by omega)
      have wq2 : IntKind.i64.wrap ((c : Int) + (i : Int)) = (c : Int) + (i : Int) := IntWalk.i64_in _ (by omega)
      have wq3 : IntKind.i64.wrap (x1 : Int) = (x1 : Int) := IntWalk.i64_in _ (by omega)
      have wq4 : IntKind.i64.wrap (x2 : Int) = (x2 : Int) := IntWalk.i64_in _ (by omega)
      obtain ⟨u, hu⟩ : ∃ u, U[i]? = some u := ⟨_, List.getElem?_eq_getElem (by have := HU.out; omega)⟩
      obtain ⟨v, hv⟩ : ∃ v, V[i]? = some v := ⟨_, List.getElem?_eq_getElem (by have := HV.out; omega)⟩
      have du : U.drop i = u :: U.drop (i + 1) := by obtain ⟨h1, h2⟩ := List.getElem?_eq_some_iff.1 hu; rw [← h2]; exact List.drop_eq_getElem_cons h1
      have dv : V.drop i = v :: V.drop (i + 1) := by obtain ⟨h1, h2⟩ := List.getElem?_eq_some_iff.1 hv; rw [← h2]; exact List.drop_eq_getElem_cons h1
      have tu : U.take (i + 1) = U.take i ++ [u] := by rw [List.take_add_one, hu]; rfl
      have tv : V.take (i + 1) = V.take i ++ [v] := by rw [List.take_add_one, hv]; rfl
      have lu : (U.take i).length = i := by rw [List.length_take]; have := HU.out; omega
      have lv : (V.take i).length = i := by rw [List.length_take]; have := HV.out; omega
      have ld : (U.drop (i + 1)).length = k - (i + 1) := by rw [List.length_drop]; have := HU.out; omega
      have hform : P ++ (V.take i ++ U.drop i) ++ Q ++ (U.take i ++ V.drop i) ++ S = (P ++ V.take i) ++ u :: ((U.drop (i + 1) ++ Q ++ U.take i) ++ v :: (V.drop (i + 1) ++ S)) := by
        rw [du, dv]; simp only [List.append_assoc, List.cons_append]
      have la : (P ++ V.take i).length = x1 := by rw [List.length_append, lv]; have := HA.out; omega
      have lb : (U.drop (i + 1) ++ Q ++ U.take i).length = x2 - x1 - 1 := by rw [List.length_append, List.length_append, ld, lu]; have := HC.out; omega
      have HGJ := Lib.hid (show (P ++ (V.take i ++ U.drop i) ++ Q ++ (U.take i ++ V.drop i) ++ S)[x1]? = some u by rw [hform, List.getElem?_append_right (by omega), la]; simp)
      have HGP := Lib.hid (show (P ++ (V.take i ++ U.drop i) ++ Q ++ (U.take i ++ V.drop i) ++ S)[x2]? = some v by
        rw [hform, List.getElem?_append_right (by omega), la, show x2 - x1 = (x2 - x1 - 1) + 1 by omega, List.getElem?_cons_succ, List.getElem?_append_right (by omega), lb]; simp)
      have HSW := Lib.hid (show ((P ++ (V.take i ++ U.drop i) ++ Q ++ (U.take i ++ V.drop i) ++ S).set x1 v).set x2 u = P ++ (V.take (i + 1) ++ U.drop (i + 1)) ++ Q ++ (U.take (i + 1) ++ V.drop (i + 1)) ++ S by
        have q := swap_two (P ++ V.take i) (U.drop (i + 1) ++ Q ++ U.take i) (V.drop (i + 1) ++ S) u v
        rw [la, lb, show x1 + 1 + (x2 - x1 - 1) = x2 by omega] at q
        rw [hform, q, tu, tv]
        simp only [List.append_assoc, List.cons_append, List.nil_append, List.singleton_append])
      have HLEN := Lib.hid (show (P ++ (V.take i ++ U.drop i) ++ Q ++ (U.take i ++ V.drop i) ++ S).length = n by
        have z := HL.out
        simp only [List.length_append, List.length_take, List.length_drop] at z ⊢
        have := HU.out; have := HV.out
        omega)
      have HNE := Lib.hid (show x1 ≠ x2 by omega)
      clear hu hv du dv tu tv lu lv ld hform la lb hx1 hx2
      obtain ⟨c0, c1, c2, c3, c4, c5⟩ := HW.out.at HGJ.out
      obtain ⟨g0, g1, g2, g3, g4, g5⟩ := HW.out.at HGP.out
      have hfz : ∀ q, wr.frozen? ⟨b, q, none⟩ = false := HW.out.frz
      go_wp2_with fail
      refine wp_region_held_drew (S := (fun V : World => True)) (by kernel_rfl) ?_ (fun hHeld => ?_)
      · trivial
      have HHeld := Lib.hid hHeld; clear hHeld
      refine wT (i := 0) (oi := { dst := some 16, op := Op.move (Operand.tmp 0), type := 25, pos := "zsortanyfunc.go:331", after := #[], guard := none }) (v := ?_) rfl (Or.inl ⟨by rfl, ?_⟩) HHeld.out ?_
      rotate_left
      · intro w hSw; clear hSw; go_simp; try with_reducible rfl
      try simp only [pu, pn, s1, s2, s3]
      refine wT (i := 1) (oi := { dst := some 17, op := Op.move (Operand.tmp 1), type := 3, pos := "zsortanyfunc.go:331", after := #[], guard := none }) (v := ?_) rfl (Or.inl ⟨by rfl, ?_⟩) HHeld.out ?_
      rotate_left
      · intro w hSw; clear hSw; go_simp; try with_reducible rfl
      try simp only [pu, pn, s1, s2, s3]
      refine wT (i := 2) (oi := { dst := some 18, op := Op.move (Operand.tmp 10), type := 3, pos := "zsortanyfunc.go:331", after := #[], guard := none }) (v := ?_) rfl (Or.inl ⟨by rfl, ?_⟩) HHeld.out ?_
      rotate_left
      · intro w hSw; clear hSw; go_simp; try with_reducible rfl
      try simp only [pu, pn, s1, s2, s3]
      refine wT (i := 3) (oi := { dst := some 19, op := Op.binOp BinOp.add 3 (Operand.tmp 17) (Operand.tmp 18) 3, type := 3, pos := "zsortanyfunc.go:331", after := #[{ on := 1, ground := Ground.data }, { on := 2, ground := Ground.data }], guard := none }) (v := ?_) rfl (Or.inl ⟨by rfl, ?_⟩) HHeld.out ?_
      rotate_left
      · intro w hSw; clear hSw; go_simp; try with_reducible rfl
      try simp only [pu, pn, s1, s2, s3]
      refine wT (i := 4) (oi := { dst := some 20, op := Op.move (Operand.tmp 0), type := 25, pos := "zsortanyfunc.go:331", after := #[{ on := 21, ground := Ground.gcOnly Departure.lateStores }], guard := none }) (v := ?_) rfl (Or.inl ⟨by rfl, ?_⟩) HHeld.out ?_
      rotate_left
      · intro w hSw; clear hSw; go_simp; try with_reducible rfl
      try simp only [pu, pn, s1, s2, s3]
      refine wT (i := 5) (oi := { dst := some 21, op := Op.move (Operand.tmp 2), type := 3, pos := "zsortanyfunc.go:331", after := #[{ on := 21, ground := Ground.gcOnly Departure.lateStores }], guard := none }) (v := ?_) rfl (Or.inl ⟨by rfl, ?_⟩) HHeld.out ?_
      rotate_left
      · intro w hSw; clear hSw; go_simp; try with_reducible rfl
      try simp only [pu, pn, s1, s2, s3]
      refine wT (i := 6) (oi := { dst := some 22, op := Op.move (Operand.tmp 10), type := 3, pos := "zsortanyfunc.go:331", after := #[{ on := 21, ground := Ground.gcOnly Departure.lateStores }], guard := none }) (v := ?_) rfl (Or.inl ⟨by rfl, ?_⟩) HHeld.out ?_
      rotate_left
      · intro w hSw; clear hSw; go_simp; try with_reducible rfl
      try simp only [pu, pn, s1, s2, s3]
      refine wT (i := 7) (oi := { dst := some 23, op := Op.binOp BinOp.add 3 (Operand.tmp 21) (Operand.tmp 22) 3, type := 3, pos := "zsortanyfunc.go:331", after := #[{ on := 5, ground := Ground.data }, { on := 6, ground := Ground.data }, { on := 21, ground := Ground.gcOnly Departure.lateStores }], guard := none }) (v := ?_) rfl (Or.inl ⟨by rfl, ?_⟩) HHeld.out ?_
      rotate_left
      · intro w hSw; clear hSw; go_simp; try with_reducible rfl
      try simp only [pu, pn, s1, s2, s3]
      refine wT (i := 8) (oi := { dst := some 24, op := Op.move (Operand.tmp 0), type := 25, pos := "zsortanyfunc.go:331", after := #[], guard := none }) (v := ?_) rfl (Or.inl ⟨by rfl, ?_⟩) HHeld.out ?_
      rotate_left
      · intro w hSw; clear hSw; go_simp; try with_reducible rfl
      try simp only [pu, pn, s1, s2, s3]
      refine wT (i := 9) (oi := { dst := some 25, op := Op.move (Operand.tmp 2), type := 3, pos := "zsortanyfunc.go:331", after := #[], guard := none }) (v := ?_) rfl (Or.inl ⟨by rfl, ?_⟩) HHeld.out ?_
      rotate_left
      · intro w hSw; clear hSw; go_simp; try with_reducible rfl
      try simp only [pu, pn, s1, s2, s3]
      refine wT (i := 10) (oi := { dst := some 26, op := Op.move (Operand.tmp 10), type := 3, pos := "zsortanyfunc.go:331", after := #[], guard := none }) (v := ?_) rfl (Or.inl ⟨by rfl, ?_⟩) HHeld.out ?_
      rotate_left
      · intro w hSw; clear hSw; go_simp; try with_reducible rfl
      try simp only [pu, pn, s1, s2, s3]
      refine wT (i := 11) (oi := { dst := some 27, op := Op.binOp BinOp.add 3 (Operand.tmp 25) (Operand.tmp 26) 3, type := 3, pos := "zsortanyfunc.go:331", after := #[{ on := 9, ground := Ground.data }, { on := 10, ground := Ground.data }], guard := none }) (v := ?_) rfl (Or.inl ⟨by rfl, ?_⟩) HHeld.out ?_
      rotate_left
      · intro w hSw; clear hSw; go_simp; try with_reducible rfl
      try simp only [pu, pn, s1, s2, s3]
      refine wT (i := 12) (oi := { dst := some 28, op := Op.indexAddr 25 (Operand.tmp 24) (Operand.tmp 27), type := 0, pos := "zsortanyfunc.go:331", after := #[{ on := 8, ground := Ground.data }, { on := 11, ground := Ground.data }], guard := none }) (v := ?_) rfl (Or.inl ⟨by rfl, ?_⟩) HHeld.out ?_
      rotate_left
      · intro w hSw; clear hSw; go_simp; try with_reducible rfl
      try simp only [pu, pn, s1, s2, s3]
      refine wT (i := 14) (oi := { dst := some 30, op := Op.move (Operand.tmp 0), type := 25, pos := "zsortanyfunc.go:331", after := #[], guard := none }) (v := ?_) rfl (Or.inl ⟨by rfl, ?_⟩) HHeld.out ?_
      rotate_left
      · intro w hSw; clear hSw; go_simp; try with_reducible rfl
      try simp only [pu, pn, s1, s2, s3]
      refine wT (i := 15) (oi := { dst := some 31, op := Op.move (Operand.tmp 1), type := 3, pos := "zsortanyfunc.go:331", after := #[], guard := none }) (v := ?_) rfl (Or.inl ⟨by rfl, ?_⟩) HHeld.out ?_
      rotate_left
      · intro w hSw; clear hSw; go_simp; try with_reducible rfl
      try simp only [pu, pn, s1, s2, s3]
      refine wT (i := 16) (oi := { dst := some 32, op := Op.move (Operand.tmp 10), type := 3, pos := "zsortanyfunc.go:331", after := #[], guard := none }) (v := ?_) rfl (Or.inl ⟨by rfl, ?_⟩) HHeld.out ?_
      rotate_left
      · intro w hSw; clear hSw; go_simp; try with_reducible rfl
      try simp only [pu, pn, s1, s2, s3]
      refine wT (i := 17) (oi := { dst := some 33, op := Op.binOp BinOp.add 3 (Operand.tmp 31) (Operand.tmp 32) 3, type := 3, pos := "zsortanyfunc.go:331", after := #[{ on := 15, ground := Ground.data }, { on := 16, ground := Ground.data }], guard := none }) (v := ?_) rfl (Or.inl ⟨by rfl, ?_⟩) HHeld.out ?_
      rotate_left
      · intro w hSw; clear hSw; go_simp; try with_reducible rfl
      try simp only [pu, pn, s1, s2, s3]
      refine wT (i := 18) (oi := { dst := some 34, op := Op.indexAddr 25 (Operand.tmp 30) (Operand.tmp 33), type := 0, pos := "zsortanyfunc.go:331", after := #[{ on := 14, ground := Ground.data }, { on := 17, ground := Ground.data }], guard := none }) (v := ?_) rfl (Or.inl ⟨by rfl, ?_⟩) HHeld.out ?_
      rotate_left
      · intro w hSw; clear hSw; go_simp; try with_reducible rfl
      try simp only [pu, pn, s1, s2, s3]
      refine wpAnyH_ready (rs := [13, 19]) (by kernel_rfl) (by simp) ?_
      refine AllReadyH.cons (o := { dst := some 29, op := Op.load 50 (Operand.tmp 28), type := 50, pos := "zsortanyfunc.go:331", after := #[{ on := 12, ground := Ground.data }], guard := none }) rfl (fun K hK => ?_) (AllReadyH.cons (o := { dst := some 35, op := Op.load 50 (Operand.tmp 34), type := 50, pos := "zsortanyfunc.go:331", after := #[{ on := 18, ground := Ground.data }], guard := none }) rfl (fun K hK => ?_) AllReadyH.nil)
      · go_simp
        refine hK.out _ _ ?_ (fun hHeld => ?_)
        · trivial
        clear HHeld; have HHeld := Lib.hid hHeld; clear hHeld
        clear hK K
        try simp only [pu, pn, s1, s2, s3]
        refine wpAnyH_ready (rs := [19]) (by kernel_rfl) (by simp) ?_
        refine AllReadyH.cons (o := { dst := some 35, op := Op.load 50 (Operand.tmp 34), type := 50, pos := "zsortanyfunc.go:331", after := #[{ on := 18, ground := Ground.data }], guard := none }) rfl (fun K hK => ?_) AllReadyH.nil
        go_simp
        refine hK.out _ _ ?_ (fun hHeld => ?_)
        · trivial
        clear HHeld; have HHeld := Lib.hid hHeld; clear hHeld
        clear hK K
        try simp only [pu, pn, s1, s2, s3]
        refine wT (i := 20) (oi := { dst := some 36, op := Op.indexAddr 25 (Operand.tmp 16) (Operand.tmp 19), type := 0, pos := "zsortanyfunc.go:331", after := #[{ on := 0, ground := Ground.data }, { on := 3, ground := Ground.data }, { on := 0, ground := Ground.phase }, { on := 1, ground := Ground.phase }, { on := 2, ground := Ground.phase }, { on := 3, ground := Ground.phase }, { on := 4, ground := Ground.textOnly Departure.lateStores }, { on := 5, ground := Ground.textOnly Departure.lateStores }, { on := 6, ground := Ground.textOnly Departure.lateStores }, { on := 7, ground := Ground.textOnly Departure.lateStores }, { on := 8, ground := Ground.phase }, { on := 9, ground := Ground.phase }, { on := 10, ground := Ground.phase }, { on := 11, ground := Ground.phase }, { on := 12, ground := Ground.phase }, { on := 13, ground := Ground.phase }, { on := 14, ground := Ground.textOnly Departure.lateStores }, { on := 15, ground := Ground.textOnly Departure.lateStores }, { on := 16, ground := Ground.textOnly Departure.lateStores }, { on := 17, ground := Ground.textOnly Departure.lateStores }, { on := 18, ground := Ground.textOnly Departure.lateStoresUnsure }, { on := 19, ground := Ground.phase }], guard := none }) (v := ?_) rfl (Or.inl ⟨by rfl, ?_⟩) HHeld.out ?_
        rotate_left
        · intro w hSw; clear hSw; go_simp; try with_reducible rfl
        try simp only [pu, pn, s1, s2, s3]
        refine wpAnyH_ready (rs := [21]) (by kernel_rfl) (by simp) ?_
        refine AllReadyH.cons (o := { dst := none, op := Op.store 50 (Operand.tmp 36) (Operand.tmp 29), type := 0, pos := "zsortanyfunc.go:331", after := #[{ on := 20, ground := Ground.data }, { on := 13, ground := Ground.data }, { on := 0, ground := Ground.phase }, { on := 1, ground := Ground.phase }, { on := 2, ground := Ground.phase }, { on := 3, ground := Ground.phase }, { on := 4, ground := Ground.textOnly Departure.lateStores }, { on := 5, ground := Ground.textOnly Departure.lateStores }, { on := 6, ground := Ground.textOnly Departure.lateStores }, { on := 7, ground := Ground.textOnly Departure.lateStores }, { on := 8, ground := Ground.phase }, { on := 9, ground := Ground.phase }, { on := 10, ground := Ground.phase }, { on := 11, ground := Ground.phase }, { on := 12, ground := Ground.phase }, { on := 13, ground := Ground.phase }, { on := 14, ground := Ground.textOnly Departure.lateStores }, { on := 15, ground := Ground.textOnly Departure.lateStores }, { on := 16, ground := Ground.textOnly Departure.lateStores }, { on := 17, ground := Ground.textOnly Departure.lateStores }, { on := 18, ground := Ground.textOnly Departure.lateStoresUnsure }, { on := 19, ground := Ground.phase }], guard := none }) rfl (fun K hK => ?_) AllReadyH.nil
        go_simp
        generalize hW2 : World.setCell _ _ _ = W2
        have I2 := Lib.hid (show InP w b off ((P ++ (V.take i ++ U.drop i) ++ Q ++ (U.take i ++ V.drop i) ++ S).set x1 v) W2 by rw [← hW2]; exact (HW.out.set (i := x1) (by have := HLEN.out; omega) v))
        clear hW2
        obtain ⟨m0, m1, m2, m3, m4, m5⟩ := I2.out.at (i := x2) (x := v) (by rw [List.getElem?_set_ne HNE.out]; exact HGP.out)
        have mf : ∀ q, W2.frozen? ⟨b, q, none⟩ = false := I2.out.frz
        refine hK.out _ _ ?_ (fun hHeld => ?_)
        · trivial
        clear HHeld; have HHeld := Lib.hid hHeld; clear hHeld
        clear hK K
        try simp only [pu, pn, s1, s2, s3]
        refine wT (i := 22) (oi := { dst := some 37, op := Op.indexAddr 25 (Operand.tmp 20) (Operand.tmp 23), type := 0, pos := "zsortanyfunc.go:331", after := #[{ on := 4, ground := Ground.data }, { on := 7, ground := Ground.data }, { on := 0, ground := Ground.phase }, { on := 1, ground := Ground.phase }, { on := 2, ground := Ground.phase }, { on := 3, ground := Ground.phase }, { on := 4, ground := Ground.phase }, { on := 5, ground := Ground.phase }, { on := 6, ground := Ground.phase }, { on := 7, ground := Ground.phase }, { on := 8, ground := Ground.phase }, { on := 9, ground := Ground.phase }, { on := 10, ground := Ground.phase }, { on := 11, ground := Ground.phase }, { on := 12, ground := Ground.phase }, { on := 13, ground := Ground.phase }, { on := 14, ground := Ground.phase }, { on := 15, ground := Ground.phase }, { on := 16, ground := Ground.phase }, { on := 17, ground := Ground.phase }, { on := 18, ground := Ground.phase }, { on := 19, ground := Ground.phase }, { on := 20, ground := Ground.phase }, { on := 21, ground := Ground.phase }], guard := none }) (v := ?_) rfl (Or.inl ⟨by rfl, ?_⟩) HHeld.out ?_
        rotate_left
        · intro w hSw; clear hSw; go_simp; try with_reducible rfl
        try simp only [pu, pn, s1, s2, s3]
        refine wpAnyH_ready (rs := [23]) (by kernel_rfl) (by simp) ?_
        refine AllReadyH.cons (o := { dst := none, op := Op.store 50 (Operand.tmp 37) (Operand.tmp 35), type := 0, pos := "zsortanyfunc.go:331", after := #[{ on := 22, ground := Ground.data }, { on := 19, ground := Ground.data }, { on := 21, ground := Ground.chain }, { on := 0, ground := Ground.phase }, { on := 1, ground := Ground.phase }, { on := 2, ground := Ground.phase }, { on := 3, ground := Ground.phase }, { on := 4, ground := Ground.phase }, { on := 5, ground := Ground.phase }, { on := 6, ground := Ground.phase }, { on := 7, ground := Ground.phase }, { on := 8, ground := Ground.phase }, { on := 9, ground := Ground.phase }, { on := 10, ground := Ground.phase }, { on := 11, ground := Ground.phase }, { on := 12, ground := Ground.phase }, { on := 13, ground := Ground.phase }, { on := 14, ground := Ground.phase }, { on := 15, ground := Ground.phase }, { on := 16, ground := Ground.phase }, { on := 17, ground := Ground.phase }, { on := 18, ground := Ground.phase }, { on := 19, ground := Ground.phase }, { on := 20, ground := Ground.phase }, { on := 21, ground := Ground.phase }], guard := none }) rfl (fun K hK => ?_) AllReadyH.nil
        go_simp
        generalize hW3 : World.setCell _ _ _ = W3
        have I3 := Lib.hid (show InP w b off (((P ++ (V.take i ++ U.drop i) ++ Q ++ (U.take i ++ V.drop i) ++ S).set x1 v).set x2 u) W3 by rw [← hW3]; exact (I2.out.set (i := x2) (by have := HLEN.out; simp only [List.length_set]; omega) u))
        clear hW3
        refine hK.out _ _ ?_ (fun hHeld => ?_)
        · trivial
        clear HHeld; have HHeld := Lib.hid hHeld; clear hHeld
        clear hK K
        try simp only [pu, pn, s1, s2, s3]
        refine wpAnyH_done (by kernel_rfl) ?_ _
        have HF := Lib.hid (show InP w b off (P ++ (V.take (i + 1) ++ U.drop (i + 1)) ++ Q ++ (U.take (i + 1) ++ V.drop (i + 1)) ++ S) W3 by
          have q := I3.out
          rw [HSW.out] at q
          exact q)
        clear HHeld
        go_wp2
        clear wq1 wq2 wq3 wq4
        exact ⟨⟨i + 1, by omega, by simp, by first | exact HF.out | exact HF.out.later (Below.refl _ _).drew⟩, by simp [intOf]; omega⟩
      · go_simp
        refine hK.out _ _ ?_ (fun hHeld => ?_)
        · trivial
        clear HHeld; have HHeld := Lib.hid hHeld; clear hHeld
        clear hK K
        try simp only [pu, pn, s1, s2, s3]
        refine wpAnyH_ready (rs := [13]) (by kernel_rfl) (by simp) ?_
        refine AllReadyH.cons (o := { dst := some 29, op := Op.load 50 (Operand.tmp 28), type := 50, pos := "zsortanyfunc.go:331", after := #[{ on := 12, ground := Ground.data }], guard := none }) rfl (fun K hK => ?_) AllReadyH.nil
        go_simp
        refine hK.out _ _ ?_ (fun hHeld => ?_)
        · trivial
        clear HHeld; have HHeld := Lib.hid hHeld; clear hHeld
        clear hK K
        try simp only [pu, pn, s1, s2, s3]
        refine wT (i := 20) (oi := { dst := some 36, op := Op.indexAddr 25 (Operand.tmp 16) (Operand.tmp 19), type := 0, pos := "zsortanyfunc.go:331", after := #[{ on := 0, ground := Ground.data }, { on := 3, ground := Ground.data }, { on := 0, ground := Ground.phase }, { on := 1, ground := Ground.phase }, { on := 2, ground := Ground.phase }, { on := 3, ground := Ground.phase }, { on := 4, ground := Ground.textOnly Departure.lateStores }, { on := 5, ground := Ground.textOnly Departure.lateStores }, { on := 6, ground := Ground.textOnly Departure.lateStores }, { on := 7, ground := Ground.textOnly Departure.lateStores }, { on := 8, ground := Ground.phase }, { on := 9, ground := Ground.phase }, { on := 10, ground := Ground.phase }, { on := 11, ground := Ground.phase }, { on := 12, ground := Ground.phase }, { on := 13, ground := Ground.phase }, { on := 14, ground := Ground.textOnly Departure.lateStores }, { on := 15, ground := Ground.textOnly Departure.lateStores }, { on := 16, ground := Ground.textOnly Departure.lateStores }, { on := 17, ground := Ground.textOnly Departure.lateStores }, { on := 18, ground := Ground.textOnly Departure.lateStoresUnsure }, { on := 19, ground := Ground.phase }], guard := none }) (v := ?_) rfl (Or.inl ⟨by rfl, ?_⟩) HHeld.out ?_
        rotate_left
        · intro w hSw; clear hSw; go_simp; try with_reducible rfl
        try simp only [pu, pn, s1, s2, s3]
        refine wpAnyH_ready (rs := [21]) (by kernel_rfl) (by simp) ?_
        refine AllReadyH.cons (o := { dst := none, op := Op.store 50 (Operand.tmp 36) (Operand.tmp 29), type := 0, pos := "zsortanyfunc.go:331", after := #[{ on := 20, ground := Ground.data }, { on := 13, ground := Ground.data }, { on := 0, ground := Ground.phase }, { on := 1, ground := Ground.phase }, { on := 2, ground := Ground.phase }, { on := 3, ground := Ground.phase }, { on := 4, ground := Ground.textOnly Departure.lateStores }, { on := 5, ground := Ground.textOnly Departure.lateStores }, { on := 6, ground := Ground.textOnly Departure.lateStores }, { on := 7, ground := Ground.textOnly Departure.lateStores }, { on := 8, ground := Ground.phase }, { on := 9, ground := Ground.phase }, { on := 10, ground := Ground.phase }, { on := 11, ground := Ground.phase }, { on := 12, ground := Ground.phase }, { on := 13, ground := Ground.phase }, { on := 14, ground := Ground.textOnly Departure.lateStores }, { on := 15, ground := Ground.textOnly Departure.lateStores }, { on := 16, ground := Ground.textOnly Departure.lateStores }, { on := 17, ground := Ground.textOnly Departure.lateStores }, { on := 18, ground := Ground.textOnly Departure.lateStoresUnsure }, { on := 19, ground := Ground.phase }], guard := none }) rfl (fun K hK => ?_) AllReadyH.nil
        go_simp
        generalize hW2 : World.setCell _ _ _ = W2
        have I2 := Lib.hid (show InP w b off ((P ++ (V.take i ++ U.drop i) ++ Q ++ (U.take i ++ V.drop i) ++ S).set x1 v) W2 by rw [← hW2]; exact (HW.out.set (i := x1) (by have := HLEN.out; omega) v))
        clear hW2
        obtain ⟨m0, m1, m2, m3, m4, m5⟩ := I2.out.at (i := x2) (x := v) (by rw [List.getElem?_set_ne HNE.out]; exact HGP.out)
        have mf : ∀ q, W2.frozen? ⟨b, q, none⟩ = false := I2.out.frz
        refine hK.out _ _ ?_ (fun hHeld => ?_)
        · trivial
        clear HHeld; have HHeld := Lib.hid hHeld; clear hHeld
        clear hK K
        try simp only [pu, pn, s1, s2, s3]
        refine wT (i := 22) (oi := { dst := some 37, op := Op.indexAddr 25 (Operand.tmp 20) (Operand.tmp 23), type := 0, pos := "zsortanyfunc.go:331", after := #[{ on := 4, ground := Ground.data }, { on := 7, ground := Ground.data }, { on := 0, ground := Ground.phase }, { on := 1, ground := Ground.phase }, { on := 2, ground := Ground.phase }, { on := 3, ground := Ground.phase }, { on := 4, ground := Ground.phase }, { on := 5, ground := Ground.phase }, { on := 6, ground := Ground.phase }, { on := 7, ground := Ground.phase }, { on := 8, ground := Ground.phase }, { on := 9, ground := Ground.phase }, { on := 10, ground := Ground.phase }, { on := 11, ground := Ground.phase }, { on := 12, ground := Ground.phase }, { on := 13, ground := Ground.phase }, { on := 14, ground := Ground.phase }, { on := 15, ground := Ground.phase }, { on := 16, ground := Ground.phase }, { on := 17, ground := Ground.phase }, { on := 18, ground := Ground.phase }, { on := 19, ground := Ground.phase }, { on := 20, ground := Ground.phase }, { on := 21, ground := Ground.phase }], guard := none }) (v := ?_) rfl (Or.inl ⟨by rfl, ?_⟩) HHeld.out ?_
        rotate_left
        · intro w hSw; clear hSw; go_simp; try with_reducible rfl
        try simp only [pu, pn, s1, s2, s3]
        refine wpAnyH_ready (rs := [23]) (by kernel_rfl) (by simp) ?_
        refine AllReadyH.cons (o := { dst := none, op := Op.store 50 (Operand.tmp 37) (Operand.tmp 35), type := 0, pos := "zsortanyfunc.go:331", after := #[{ on := 22, ground := Ground.data }, { on := 19, ground := Ground.data }, { on := 21, ground := Ground.chain }, { on := 0, ground := Ground.phase }, { on := 1, ground := Ground.phase }, { on := 2, ground := Ground.phase }, { on := 3, ground := Ground.phase }, { on := 4, ground := Ground.phase }, { on := 5, ground := Ground.phase }, { on := 6, ground := Ground.phase }, { on := 7, ground := Ground.phase }, { on := 8, ground := Ground.phase }, { on := 9, ground := Ground.phase }, { on := 10, ground := Ground.phase }, { on := 11, ground := Ground.phase }, { on := 12, ground := Ground.phase }, { on := 13, ground := Ground.phase }, { on := 14, ground := Ground.phase }, { on := 15, ground := Ground.phase }, { on := 16, ground := Ground.phase }, { on := 17, ground := Ground.phase }, { on := 18, ground := Ground.phase }, { on := 19, ground := Ground.phase }, { on := 20, ground := Ground.phase }, { on := 21, ground := Ground.phase }], guard := none }) rfl (fun K hK => ?_) AllReadyH.nil
        go_simp
        generalize hW3 : World.setCell _ _ _ = W3
        have I3 := Lib.hid (show InP w b off (((P ++ (V.take i ++ U.drop i) ++ Q ++ (U.take i ++ V.drop i) ++ S).set x1 v).set x2 u) W3 by rw [← hW3]; exact (I2.out.set (i := x2) (by have := HLEN.out; simp only [List.length_set]; omega) u))
        clear hW3
        refine hK.out _ _ ?_ (fun hHeld => ?_)
        · trivial
        clear HHeld; have HHeld := Lib.hid hHeld; clear hHeld
        clear hK K
        try simp only [pu, pn, s1, s2, s3]
        refine wpAnyH_done (by kernel_rfl) ?_ _
        have HF := Lib.hid (show InP w b off (P ++ (V.take (i + 1) ++ U.drop (i + 1)) ++ Q ++ (U.take (i + 1) ++ V.drop (i + 1)) ++ S) W3 by
          have q := I3.out
          rw [HSW.out] at q
          exact q)
        clear HHeld
        go_wp2
        clear wq1 wq2 wq3 wq4
        exact ⟨⟨i + 1, by omega, by simp, by first | exact HF.out | exact HF.out.later (Below.refl _ _).drew⟩, by simp [intOf]; omega⟩
    · have hk1 : ¬ (i : Int) < (k : Int) := by omega
      have HF := Lib.hid (show InP w b off (P ++ V ++ Q ++ U ++ S) wr by
        have z := HW.out
        rw [List.take_of_length_le (by have := HV.out; omega), List.take_of_length_le (by have := HU.out; omega), List.drop_eq_nil_of_le (by have := HU.out; omega), List.drop_eq_nil_of_le (by have := HV.out; omega), List.append_nil, List.append_nil] at z
        exact z)
      clear HW
      go_wp2
      go_end0
      exact ⟨rfl, by first | exact HF.out | simpa using HF.out⟩
set_option maxRecDepth 100000 in
set_option maxHeartbeats 8000000 in
theorem rot_any (b off n cap a m e : Nat) (P A B S : List MG) (w : World) (hl : (P ++ A ++ B ++ S).length = n) (ha : P.length = a) (hm : a + A.length = m) (he : m + B.length = e) (hA : 1 ≤ A.length) (hB : 1 ≤ B.length) (hn : n ≤ 1000) (hnc : n ≤ cap) (hI : InP w b off (P ++ A ++ B ++ S) w) :
    Calls Tryz.prog 103 #[.slice (some ⟨b, off, none⟩) n cap, .int .i64 a, .int .i64 m, .int .i64 e, OF] w fun r w' => r = .returned (.tuple #[]) ∧ InP w b off (P ++ B ++ A ++ S) w' := by
  obtain ⟨i0, hi0⟩ : ∃ i0, A.length = i0 := ⟨_, rfl⟩
  obtain ⟨j0, hj0⟩ : ∃ j0, B.length = j0 := ⟨_, rfl⟩
  rw [hi0] at hm hA
  rw [hj0] at he hB
  have hen : e ≤ n := by simp only [List.length_append] at hl; omega
  have e1 : (m : Int) - (a : Int) = (i0 : Int) := by omega
  have e2 : (e : Int) - (m : Int) = (j0 : Int) := by omega
  have q1 : (m : Int) ≤ 1000 := by omega
  have q2 : (e : Int) ≤ 1000 := by omega
  have q3 : (0 : Int) ≤ (m : Int) := by omega
  have q4 : (0 : Int) ≤ (a : Int) := by omega
  have q5 : (a : Int) ≤ (m : Int) := by omega
  have q6 : (m : Int) ≤ (e : Int) := by omega
  have q7 : (0 : Int) ≤ (e : Int) := by omega
  have HI := Lib.hid hI
  have HL := Lib.hid hl
  have H1 := Lib.hid (And.intro ha hm)
  have H2 := Lib.hid (And.intro hi0 hj0)
  obtain ⟨T, hT⟩ : ∃ T, P ++ B ++ A ++ S = T := ⟨_, rfl⟩
  rw [hT]
  have HT := Lib.hid hT
  clear hT hl ha hm he hI hi0 hj0
  go_enter Tryz.func103, Tryz.ntmps103
  go_wp2
  go_loopw [10, 11] (fun iv jv wr => ∃ (i j : Nat) (P2 A2 B2 S2 : List MG), 1 ≤ i ∧ 1 ≤ j ∧ i ≤ m ∧ m + j ≤ n ∧ iv = .int .i64 i ∧ jv = .int .i64 j ∧ Hid (A2.length = i ∧ B2.length = j ∧ P2.length + i = m ∧ P2 ++ B2 ++ A2 ++ S2 = T ∧ (P2 ++ A2 ++ B2 ++ S2).length = n) ∧ InP w b off (P2 ++ A2 ++ B2 ++ S2) wr) (fun iv jv _ => (intOf iv).toNat + (intOf jv).toNat)
  case atStart => exact ⟨i0, j0, P, A, B, S, hA, hB, by omega, by omega, rfl, rfl, Lib.hid ⟨H2.out.1, H2.out.2, by have := H1.out; omega, HT.out, HL.out⟩, HI.out⟩
  case round =>
    clear HI HT HL H1 H2 P A B S
    obtain ⟨i, j, P, A, B, S, hi, hj, him, hmj, rfl, rfl, HF, hI⟩ := hrel
    have HW := Lib.hid hI
    clear hI
    obtain ⟨x, hx⟩ : ∃ x, m - i = x := ⟨_, rfl⟩
    have ex : (m : Int) - (i : Int) = (x : Int) := by omega
    have z1 : (1 : Int) ≤ (i : Int) := by omega
    have z2 : (1 : Int) ≤ (j : Int) := by omega
    have z3 : (i : Int) ≤ (m : Int) := by omega
    have z4 : (i : Int) ≤ 1000 := by omega
    have z5 : (j : Int) ≤ 1000 := by omega
    by_cases h1 : i = j
    · have b1 : ((i : Int) != (j : Int)) = false := by rw [h1]; simp
      have b2 : ((i : Int) == (j : Int)) = true := by rw [h1]; simp
      have b3 : (i != j) = false := by rw [h1]; simp
      have HC := Lib.hid (swapR_any b off n cap x m i P A [] B S wr (by have := HF.out; simpa using this.2.2.2.2) (by have := HF.out; omega) HF.out.1 (by rw [h1]; exact HF.out.2.1) (by simp; omega) hn hnc (by simpa using HW.out.refl))
      have HX := Lib.hid (show P ++ B ++ [] ++ A ++ S = T by rw [List.append_nil]; exact HF.out.2.2.2.1)
      rw [HX.out] at HC
      have HIJ := Lib.hid h1
      clear h1 hx
      go_wp2_with (first
        | (go_at_call 104; ((with_reducible refine HC.out.mono ?_); rintro e w1 ⟨rfl, c1⟩; have C1 := Lib.hid (HW.out.trans c1); clear c1))
        | fail)
      go_end0
      exact ⟨rfl, C1.out⟩
    · have b1 : ((i : Int) != (j : Int)) = true := by rw [bne_iff_ne]; omega
      have b2 : ((i : Int) == (j : Int)) = false := by rw [beq_eq_false_iff_ne]; omega
      have b3 : (i != j) = true := by rw [bne_iff_ne]; exact h1
      have b4 : ¬ ((i : Int) = (j : Int)) := by omega
      by_cases h2 : j < i
      · have h3 : (j : Int) < (i : Int) := by omega
        have tl : (A.take j).length = j := by rw [List.length_take]; have := HF.out; omega
        have dl : (A.drop j).length = i - j := by rw [List.length_drop]; have := HF.out; omega
        have HC := Lib.hid (swapR_any b off n cap x m j P (A.take j) (A.drop j) B S wr (by have := HF.out.2.2.2.2; rw [List.append_assoc P, List.take_append_drop]; exact this) (by have := HF.out; omega) tl HF.out.2.1 (by rw [dl]; omega) hn hnc (by rw [List.append_assoc P, List.take_append_drop]; exact HW.out.refl))
        obtain ⟨i2, hi2⟩ : ∃ i2, i - j = i2 := ⟨_, rfl⟩
        have e3 : (i : Int) - (j : Int) = (i2 : Int) := by omega
        have HN := Lib.hid (show (A.drop j).length = i2 ∧ (A.take j).length = j ∧ (P ++ B).length + i2 = m ∧ (P ++ B) ++ A.take j ++ A.drop j ++ S = T ∧ ((P ++ B) ++ A.drop j ++ A.take j ++ S).length = n by
          have h := HF.out
          refine ⟨by rw [dl]; exact hi2, tl, by rw [List.length_append]; omega, ?_, ?_⟩
          · rw [← h.2.2.2.1, List.append_assoc (P ++ B), List.take_append_drop]
          · have z := h.2.2.2.2
            simp only [List.length_append] at z ⊢
            rw [dl, tl]; omega)
        have HM := Lib.hid (show 1 ≤ i2 ∧ i2 ≤ m ∧ i2 + j = i by omega)
        clear h1 hx hi2 tl dl
        go_wp2_with (first
          | (go_at_call 104; ((with_reducible refine HC.out.mono ?_); rintro e w1 ⟨rfl, c1⟩; have C1 := Lib.hid (HW.out.trans c1); clear c1))
          | fail)
        exact ⟨⟨i2, j, P ++ B, A.drop j, A.take j, S, HM.out.1, hj, HM.out.2.1, hmj, rfl, rfl, HN, C1.out⟩, by simp [intOf]; have := HM.out; omega⟩
      · have h3 : ¬ (j : Int) < (i : Int) := by omega
        have tl : (B.take (j - i)).length = j - i := by rw [List.length_take]; have := HF.out; omega
        have dl : (B.drop (j - i)).length = i := by rw [List.length_drop]; have := HF.out; omega
        obtain ⟨j2, hj2⟩ : ∃ j2, j - i = j2 := ⟨_, rfl⟩
        rw [hj2] at tl dl
        obtain ⟨y, hy⟩ : ∃ y, m + j2 = y := ⟨_, rfl⟩
        have e3 : (j : Int) - (i : Int) = (j2 : Int) := by omega
        have e4 : (m : Int) + (j : Int) - (i : Int) = (y : Int) := by omega
        have e5 : (i : Int) ≤ (m : Int) + (j : Int) := by omega
        have hsp : P ++ A ++ B.take j2 ++ B.drop j2 ++ S = P ++ A ++ B ++ S := by rw [List.append_assoc (P ++ A), List.take_append_drop]
        have HC := Lib.hid (swapR_any b off n cap x y i P A (B.take j2) (B.drop j2) S wr (by rw [hsp]; exact HF.out.2.2.2.2) (by have := HF.out; omega) HF.out.1 dl (by rw [tl]; omega) hn hnc (by rw [hsp]; exact HW.out.refl))
        have HN := Lib.hid (show (B.drop j2).length = i ∧ (B.take j2).length = j2 ∧ P.length + i = m ∧ P ++ B.take j2 ++ B.drop j2 ++ (A ++ S) = T ∧ (P ++ B.drop j2 ++ B.take j2 ++ (A ++ S)).length = n by
          have h := HF.out
          refine ⟨dl, tl, h.2.2.1, ?_, ?_⟩
          · rw [← h.2.2.2.1, List.append_assoc P, List.take_append_drop]; simp only [List.append_assoc]
          · have z := h.2.2.2.2
            simp only [List.length_append] at z ⊢
            rw [dl, tl]; omega)
        have HM := Lib.hid (show 1 ≤ j2 ∧ m + j2 ≤ n ∧ j2 + i = j by omega)
        clear h1 hx hj2 tl dl hy hsp
        go_wp2_with (first
          | (go_at_call 104; ((with_reducible refine HC.out.mono ?_); rintro e w1 ⟨rfl, c1⟩; have C1 := Lib.hid (HW.out.trans c1); clear c1))
          | fail)
        exact ⟨⟨i, j2, P, B.drop j2, B.take j2, A ++ S, hi, HM.out.1, him, HM.out.2.1, rfl, rfl, HN, by simpa only [List.append_assoc] using C1.out⟩, by simp [intOf]; have := HM.out; omega⟩
end Go.Proofs.YtilnpeekajnlhaaGreat
