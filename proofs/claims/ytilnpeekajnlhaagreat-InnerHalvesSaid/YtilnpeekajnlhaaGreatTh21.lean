/- Insertion sort where the messages lie. -/
import Derived.Test.YtilnpeekajnlhaaGreatTh02
import Derived.Test.YtilnpeekajnlhaaGreatTh20
import Derived.Deep.RegionHeld3
import Derived.IntWalk
set_option linter.unusedVariables false
set_option linter.unusedSimpArgs false
namespace Go.Proofs.YtilnpeekajnlhaaGreat
open Go.RowKit Go.Maps
theorem InP.at {w0 : World} {b off : Nat} {xs : List MG} {W : World} (h : InP w0 b off xs W) {i : Nat} {x : MG} (hi : xs[i]? = some x) : W.cell? ⟨b, off + i * 6, none⟩ = some (.int .u8 x.kd) ∧ W.cell? ⟨b, off + i * 6 + 1, none⟩ = some (.int .i64 x.sq) ∧ W.cell? ⟨b, off + i * 6 + 2, none⟩ = some (.string x.ky) ∧ W.cell? ⟨b, off + i * 6 + 3, none⟩ = some (.string x.to) ∧ W.cell? ⟨b, off + i * 6 + 4, none⟩ = some (.string x.vl) ∧ W.cell? ⟨b, off + i * 6 + 5, none⟩ = some (.int .u64 x.dl) := by
  obtain ⟨b', off', e, _, g⟩ := eg_at h.rd hi
  cases e
  exact g
theorem InP.len {w0 : World} {b off : Nat} {xs : List MG} {W : World} (h : InP w0 b off xs W) : True := trivial
theorem swap_down (A R : List MG) (x y : MG) : ((A ++ y :: x :: R).set (A.length + 1) y).set A.length x = A ++ x :: y :: R := by
  rw [List.set_append_right _ _ (by omega), List.set_append_right _ _ (by omega)]
  simp
set_option maxRecDepth 100000 in
set_option maxHeartbeats 8000000 in
theorem ins_any (b off n cap a e : Nat) (P M S : List MG) (w : World) (hl : (P ++ M ++ S).length = n) (ha : P.length = a) (he : a + M.length = e) (hn : n ≤ 1000) (hnc : n ≤ cap) (hI : InP w b off (P ++ M ++ S) w) :
    Calls Tryz.prog 101 #[.slice (some ⟨b, off, none⟩) n cap, .int .i64 a, .int .i64 e, OF] w fun r w' => r = .returned (.tuple #[]) ∧ InP w b off (P ++ stab M ++ S) w' := by
  have hen : e ≤ n := by rw [List.length_append, List.length_append] at hl; omega
  have hpn : P.length ≤ n := by rw [List.length_append, List.length_append] at hl; omega
  have ha0 : (0 : Int) ≤ (a : Int) := by omega
  have ha1 : (a : Int) ≤ 1000 := by omega
  clear hpn
  have HA := Lib.hid ha
  have HL := Lib.hid hl
  have HE := Lib.hid he
  have HI := Lib.hid hI
  clear hl ha he hI
  have wz : IntKind.i64.wrap (0 : Int) = 0 := IntWalk.i64_in _ (by omega)
  go_enter Tryz.func101, Tryz.ntmps101
  go_wp2
  go_loopw [8] (fun iv wr => ∃ (q : Nat), 1 ≤ q ∧ (q ≤ M.length ∨ q = 1) ∧ iv = .int .i64 ((a + q : Nat) : Int) ∧ InP w b off (P ++ stab (M.take q) ++ (M.drop q ++ S)) wr) (fun iv _ => e + 1 - (intOf iv).toNat)
  case atStart =>
    refine ⟨1, Nat.le_refl _, .inr rfl, by simp, ?_⟩
    have e1 : stab (M.take 1) = M.take 1 := stab_srt (by cases M with
      | nil => exact List.Pairwise.nil
      | cons x xs => exact List.pairwise_singleton _ _)
    rw [e1, ← List.append_assoc, List.append_assoc P, List.take_append_drop]
    exact HI.out
  case round =>
    obtain ⟨q, hq1, hq2, rfl, hI⟩ := hrel
    have HQ := Lib.hid hI
    clear hI
    obtain ⟨i, hi⟩ : ∃ i, a + q = i := ⟨_, rfl⟩
    rw [hi]
    have HIQ := Lib.hid hi
    by_cases h8 : i < e
    · have hk1 : (i : Int) < (e : Int) := by omega
      have hqm : q < M.length := by have := HE.out; omega
      obtain ⟨x, hx⟩ : ∃ x, M[q]? = some x := ⟨_, List.getElem?_eq_getElem hqm⟩
      have hdr : M.drop q = x :: M.drop (q + 1) := by
        obtain ⟨h1, h2⟩ := List.getElem?_eq_some_iff.1 hx
        rw [← h2]; exact List.drop_eq_getElem_cons h1
      obtain ⟨acc, hacc⟩ : ∃ acc, stab (M.take q) = acc := ⟨_, rfl⟩
      have hal : acc.length = q := by rw [← hacc, stab_len, List.length_take]; omega
      have HNX := Lib.hid (show stab (M.take (q + 1)) = insM x acc by rw [← hacc]; exact accM_next hx)
      obtain ⟨T, hT⟩ : ∃ T, M.drop (q + 1) ++ S = T := ⟨_, rfl⟩
      have HQ0 := Lib.hid (show InP w b off (P ++ acc.take q ++ x :: (acc.drop q ++ T)) wr by
        have z := HQ.out
        rw [hacc, hdr, List.cons_append, hT] at z
        rw [List.take_of_length_le (by omega), List.drop_eq_nil_of_le (by omega)]
        exact z)
      have HTT := Lib.hid hT
      have HAL := Lib.hid hal
      clear HQ hacc hT hdr hx hi hal
      go_wp2
      go_loopw [9] (fun jv wr => ∃ (k : Nat), k ≤ q ∧ jv = .int .i64 ((a + k : Nat) : Int) ∧ Hid (insK x acc q = insK x acc k) ∧ InP w b off (P ++ acc.take k ++ x :: (acc.drop k ++ T)) wr) (fun jv _ => (intOf jv).toNat)
      case atStart => exact ⟨q, Nat.le_refl _, by rw [HIQ.out], Lib.hid rfl, HQ0.out⟩
      case round =>
        clear HQ0
        obtain ⟨k, hk, rfl, HIK, hI⟩ := hrel
        have HW0 := Lib.hid hI
        clear hI
        obtain ⟨j, hj⟩ : ∃ j, a + k = j := ⟨_, rfl⟩
        rw [hj]
        have HJ := Lib.hid hj
        have HFIN := Lib.hid (fun (W : World) (hW : InP w b off (P ++ acc.take k ++ x :: (acc.drop k ++ T)) W) (h : insK x acc q = k) => show InP w b off (P ++ stab (M.take (q + 1)) ++ (M.drop (q + 1) ++ S)) W by
          rw [HNX.out, HTT.out]
          unfold insM
          rw [HAL.out, h]
          simpa using hW)
        by_cases h0 : k = 0
        · have z1 : ¬ (a : Int) < (j : Int) := by omega
          have z1n : ¬ (a < j) := by omega
          have z1d : decide (a < j) = false := by simpa using z1n
          have z1e : decide ((a : Int) < (j : Int)) = false := by simpa using z1
          have HK0 := Lib.hid (show insK x acc q = k by rw [HIK.out, h0]; rfl)
          clear h0 hj
          go_wp2_with fail
          go_quiet (fail)
          go_wp2
          exact ⟨⟨q + 1, by omega, .inl (by omega), by have := HIQ.out; simp; omega, HFIN.out _ (HW0.out.later (bel_drewN (Below.refl _ _) _)) HK0.out⟩, by simp [intOf]; omega⟩
        · obtain ⟨k', hkk⟩ : ∃ k', k = k' + 1 := ⟨k - 1, by omega⟩
          obtain ⟨p, hp⟩ : ∃ p, j = p + 1 := ⟨j - 1, by omega⟩
          have j1 : (a : Int) < (j : Int) := by omega
          have j2 : a < j := by omega
          have hjn : j < n := by have := HE.out; have := HIQ.out; omega
          have jn : (j : Int) < (n : Int) := by omega
          have jz : (0 : Int) ≤ (j : Int) := by omega
          have wq1 : IntKind.i64.wrap ((j : Int) - 1) = (j : Int) - 1 := IntWalk.i64_in _ (by omega)
          have e1 : (j : Int) - 1 = (p : Int) := by omega
          have p0 : (0 : Int) ≤ (p : Int) := by omega
          have pn : (p : Int) < (n : Int) := by omega
          have pnn : p < n := by omega
          have wq2 : IntKind.i64.wrap (p : Int) = (p : Int) := IntWalk.i64_in _ (by omega)
          have k1 : (1 : Int) ≤ (j : Int) := by omega
          have k2 : 1 ≤ j := by omega
          have k3 : (j : Int) < (n : Int) + 1 := by omega
          have k4 : (j : Int) ≤ (n : Int) := by omega
          obtain ⟨y, hy⟩ : ∃ y, acc[k']? = some y := ⟨_, List.getElem?_eq_getElem (by have := HAL.out; omega)⟩
          have HY := Lib.hid hy
          have hA := HA.out
          have htk : acc.take k = acc.take k' ++ [y] := by rw [hkk, List.take_add_one, hy]; rfl
          have hdk : acc.drop k' = y :: acc.drop k := by
            obtain ⟨h1, h2⟩ := List.getElem?_eq_some_iff.1 hy
            rw [← h2, hkk]; exact List.drop_eq_getElem_cons h1
          have hlt : (acc.take k').length = k' := by rw [List.length_take]; have := HAL.out; omega
          have HGJ := Lib.hid (show (P ++ acc.take k ++ x :: (acc.drop k ++ T))[j]? = some x by
            rw [htk, List.getElem?_append_right (by simp; omega)]
            simp [hlt, show j - (P.length + (k' + 1)) = 0 by omega])
          have HGP := Lib.hid (show (P ++ acc.take k ++ x :: (acc.drop k ++ T))[p]? = some y by
            rw [htk, List.append_assoc, List.append_assoc, List.getElem?_append_right (by omega), List.getElem?_append_right (by omega)]
            simp [hlt, show p - P.length - k' = 0 by omega])
          have HSW := Lib.hid (show (((P ++ acc.take k ++ x :: (acc.drop k ++ T)).set j y).set p x) = P ++ acc.take k' ++ x :: (acc.drop k' ++ T) by
            have q1 := swap_down (P ++ acc.take k') (acc.drop k ++ T) x y
            rw [htk, hdk]
            have e2 : (P ++ acc.take k').length = p := by rw [List.length_append, hlt]; omega
            rw [e2] at q1
            have e3 : j = p + 1 := hp
            rw [e3]
            simpa using q1)
          have HLEN := Lib.hid (show (P ++ acc.take k ++ x :: (acc.drop k ++ T)).length = n by
            have z := HL.out
            rw [← HTT.out]
            rw [List.length_append, List.length_append] at z
            simp only [List.length_append, List.length_cons, List.length_take, List.length_drop]
            have := HAL.out
            omega)
          have HNE := Lib.hid (show j ≠ p by omega)
          have HKK := Lib.hid hkk
          have HPJ := Lib.hid hp
          clear htk hdk hlt hy hA hkk hp h0 hj
          obtain ⟨c0, c1, c2, c3, c4, c5⟩ := HW0.out.at HGJ.out
          obtain ⟨g0, g1, g2, g3, g4, g5⟩ := HW0.out.at HGP.out
          have KS := Lib.hid (show ∀ W, Below wr.heap.size wr W → Below wr.heap.size wr W ∧ W.cell? ⟨b, off + j * 6, none⟩ = some (.int .u8 x.kd) ∧ W.cell? ⟨b, off + j * 6 + 1, none⟩ = some (.int .i64 x.sq) ∧ W.cell? ⟨b, off + j * 6 + 2, none⟩ = some (.string x.ky) ∧ W.cell? ⟨b, off + j * 6 + 3, none⟩ = some (.string x.to) ∧ W.cell? ⟨b, off + j * 6 + 4, none⟩ = some (.string x.vl) ∧ W.cell? ⟨b, off + j * 6 + 5, none⟩ = some (.int .u64 x.dl) ∧ W.cell? ⟨b, off + p * 6, none⟩ = some (.int .u8 y.kd) ∧ W.cell? ⟨b, off + p * 6 + 1, none⟩ = some (.int .i64 y.sq) ∧ W.cell? ⟨b, off + p * 6 + 2, none⟩ = some (.string y.ky) ∧ W.cell? ⟨b, off + p * 6 + 3, none⟩ = some (.string y.to) ∧ W.cell? ⟨b, off + p * 6 + 4, none⟩ = some (.string y.vl) ∧ W.cell? ⟨b, off + p * 6 + 5, none⟩ = some (.int .u64 y.dl) from fun W h => ⟨h, bel_later h c0, bel_later h c1, bel_later h c2, bel_later h c3, bel_later h c4, bel_later h c5, bel_later h g0, bel_later h g1, bel_later h g2, bel_later h g3, bel_later h g4, bel_later h g5⟩)
          have AA := Lib.hid (order_any x y)
          have HD := Lib.hid (ord_ahead x y)
          obtain ⟨ov, hov⟩ : ∃ ov, ordM x y = ov := ⟨_, rfl⟩
          rw [hov] at AA HD
          clear hov
          cases haa : aheadM x y
          all_goals
            have HAH := Lib.hid haa
            have hd := HD.out
            rw [haa] at hd
            clear haa
            go_wp2_with fail
            clear c0 c1 c2 c3 c4 c5 g0 g1 g2 g3 g4 g5
            go_region_held3 (fun W => Below wr.heap.size wr W ∧ W.cell? ⟨b, off + j * 6, none⟩ = some (.int .u8 x.kd) ∧ W.cell? ⟨b, off + j * 6 + 1, none⟩ = some (.int .i64 x.sq) ∧ W.cell? ⟨b, off + j * 6 + 2, none⟩ = some (.string x.ky) ∧ W.cell? ⟨b, off + j * 6 + 3, none⟩ = some (.string x.to) ∧ W.cell? ⟨b, off + j * 6 + 4, none⟩ = some (.string x.vl) ∧ W.cell? ⟨b, off + j * 6 + 5, none⟩ = some (.int .u64 x.dl) ∧ W.cell? ⟨b, off + p * 6, none⟩ = some (.int .u8 y.kd) ∧ W.cell? ⟨b, off + p * 6 + 1, none⟩ = some (.int .i64 y.sq) ∧ W.cell? ⟨b, off + p * 6 + 2, none⟩ = some (.string y.ky) ∧ W.cell? ⟨b, off + p * 6 + 3, none⟩ = some (.string y.to) ∧ W.cell? ⟨b, off + p * 6 + 4, none⟩ = some (.string y.vl) ∧ W.cell? ⟨b, off + p * 6 + 5, none⟩ = some (.int .u64 y.dl)) (first | exact KS.out _ ((Below.refl _ _).drew) | exact KS.out _ (bel_trans (And.left ‹_›) ‹_›) | (trace_state; fail)) (first
              | (go_at_call 61; ((with_reducible refine (AA.out _).mono ?_); rintro e w1 ⟨rfl, b1⟩)))
            rename_i hH
            have HW := Lib.hid (HW0.out.later hH.1)
            clear hH
          · have HK0 := Lib.hid (show insK x acc q = k by rw [HIK.out, HKK.out, insK_no HY.out HAH.out])
            go_wp2
            exact ⟨⟨q + 1, by omega, .inl (by omega), by have := HIQ.out; simp; omega, HFIN.out _ HW.out HK0.out⟩, by simp [intOf]; omega⟩
          · obtain ⟨c0, c1, c2, c3, c4, c5⟩ := HW.out.at HGJ.out
            obtain ⟨g0, g1, g2, g3, g4, g5⟩ := HW.out.at HGP.out
            have hfz : ∀ q, w1.frozen? ⟨b, q, none⟩ = false := HW.out.frz
            clear KS AA hd
            go_wp2_with fail
            refine wp_region_held_drew (S := (fun V : World => True)) (by kernel_rfl) ?_ (fun hHeld => ?_)
            · trivial
            have HHeld := Lib.hid hHeld; clear hHeld
            refine wT (i := 0) (oi := { dst := some 37, op := Op.move (Operand.tmp 0), type := 25, pos := "zsortanyfunc.go:13", after := #[], guard := none }) (v := ?_) rfl (Or.inl ⟨by rfl, ?_⟩) HHeld.out ?_
            rotate_left
            · intro w hSw; clear hSw; go_simp; try with_reducible rfl
            try simp only [pu, pn, s1, s2, s3]
            refine wT (i := 1) (oi := { dst := some 38, op := Op.move (Operand.tmp 9), type := 3, pos := "zsortanyfunc.go:13", after := #[], guard := none }) (v := ?_) rfl (Or.inl ⟨by rfl, ?_⟩) HHeld.out ?_
            rotate_left
            · intro w hSw; clear hSw; go_simp; try with_reducible rfl
            try simp only [pu, pn, s1, s2, s3]
            refine wT (i := 2) (oi := { dst := some 39, op := Op.move (Operand.tmp 0), type := 25, pos := "zsortanyfunc.go:13", after := #[{ on := 15, ground := Ground.gcOnly Departure.lateStores }], guard := none }) (v := ?_) rfl (Or.inl ⟨by rfl, ?_⟩) HHeld.out ?_
            rotate_left
            · intro w hSw; clear hSw; go_simp; try with_reducible rfl
            try simp only [pu, pn, s1, s2, s3]
            refine wT (i := 3) (oi := { dst := some 40, op := Op.move (Operand.tmp 9), type := 3, pos := "zsortanyfunc.go:13", after := #[{ on := 15, ground := Ground.gcOnly Departure.lateStores }], guard := none }) (v := ?_) rfl (Or.inl ⟨by rfl, ?_⟩) HHeld.out ?_
            rotate_left
            · intro w hSw; clear hSw; go_simp; try with_reducible rfl
            try simp only [pu, pn, s1, s2, s3]
            refine wT (i := 4) (oi := { dst := some 41, op := Op.binOp BinOp.sub 3 (Operand.tmp 40) (Operand.const (Value.int IntKind.i64 1)) 3, type := 3, pos := "zsortanyfunc.go:13", after := #[{ on := 3, ground := Ground.data }, { on := 15, ground := Ground.gcOnly Departure.lateStores }], guard := none }) (v := ?_) rfl (Or.inl ⟨by rfl, ?_⟩) HHeld.out ?_
            rotate_left
            · intro w hSw; clear hSw; go_simp; try with_reducible rfl
            try simp only [pu, pn, s1, s2, s3]
            refine wT (i := 5) (oi := { dst := some 42, op := Op.move (Operand.tmp 0), type := 25, pos := "zsortanyfunc.go:13", after := #[], guard := none }) (v := ?_) rfl (Or.inl ⟨by rfl, ?_⟩) HHeld.out ?_
            rotate_left
            · intro w hSw; clear hSw; go_simp; try with_reducible rfl
            try simp only [pu, pn, s1, s2, s3]
            refine wT (i := 6) (oi := { dst := some 43, op := Op.move (Operand.tmp 9), type := 3, pos := "zsortanyfunc.go:13", after := #[], guard := none }) (v := ?_) rfl (Or.inl ⟨by rfl, ?_⟩) HHeld.out ?_
            rotate_left
            · intro w hSw; clear hSw; go_simp; try with_reducible rfl
            try simp only [pu, pn, s1, s2, s3]
            refine wT (i := 7) (oi := { dst := some 44, op := Op.binOp BinOp.sub 3 (Operand.tmp 43) (Operand.const (Value.int IntKind.i64 1)) 3, type := 3, pos := "zsortanyfunc.go:13", after := #[{ on := 6, ground := Ground.data }], guard := none }) (v := ?_) rfl (Or.inl ⟨by rfl, ?_⟩) HHeld.out ?_
            rotate_left
            · intro w hSw; clear hSw; go_simp; try with_reducible rfl
            try simp only [pu, pn, s1, s2, s3]
            refine wT (i := 8) (oi := { dst := some 45, op := Op.indexAddr 25 (Operand.tmp 42) (Operand.tmp 44), type := 0, pos := "zsortanyfunc.go:13", after := #[{ on := 5, ground := Ground.data }, { on := 7, ground := Ground.data }], guard := none }) (v := ?_) rfl (Or.inl ⟨by rfl, ?_⟩) HHeld.out ?_
            rotate_left
            · intro w hSw; clear hSw; go_simp; try with_reducible rfl
            try simp only [pu, pn, s1, s2, s3]
            refine wT (i := 10) (oi := { dst := some 47, op := Op.move (Operand.tmp 0), type := 25, pos := "zsortanyfunc.go:13", after := #[], guard := none }) (v := ?_) rfl (Or.inl ⟨by rfl, ?_⟩) HHeld.out ?_
            rotate_left
            · intro w hSw; clear hSw; go_simp; try with_reducible rfl
            try simp only [pu, pn, s1, s2, s3]
            refine wT (i := 11) (oi := { dst := some 48, op := Op.move (Operand.tmp 9), type := 3, pos := "zsortanyfunc.go:13", after := #[], guard := none }) (v := ?_) rfl (Or.inl ⟨by rfl, ?_⟩) HHeld.out ?_
            rotate_left
            · intro w hSw; clear hSw; go_simp; try with_reducible rfl
            try simp only [pu, pn, s1, s2, s3]
            refine wT (i := 12) (oi := { dst := some 49, op := Op.indexAddr 25 (Operand.tmp 47) (Operand.tmp 48), type := 0, pos := "zsortanyfunc.go:13", after := #[{ on := 10, ground := Ground.data }, { on := 11, ground := Ground.data }], guard := none }) (v := ?_) rfl (Or.inl ⟨by rfl, ?_⟩) HHeld.out ?_
            rotate_left
            · intro w hSw; clear hSw; go_simp; try with_reducible rfl
            try simp only [pu, pn, s1, s2, s3]
            refine wpAnyH_ready (rs := [9, 13]) (by kernel_rfl) (by simp) ?_
            refine AllReadyH.cons (o := { dst := some 46, op := Op.load 50 (Operand.tmp 45), type := 50, pos := "zsortanyfunc.go:13", after := #[{ on := 8, ground := Ground.data }], guard := none }) rfl (fun K hK => ?_) (AllReadyH.cons (o := { dst := some 50, op := Op.load 50 (Operand.tmp 49), type := 50, pos := "zsortanyfunc.go:13", after := #[{ on := 12, ground := Ground.data }], guard := none }) rfl (fun K hK => ?_) AllReadyH.nil)
            · go_simp
              refine hK.out _ _ ?_ (fun hHeld => ?_)
              · trivial
              clear HHeld; have HHeld := Lib.hid hHeld; clear hHeld
              clear hK K
              try simp only [pu, pn, s1, s2, s3]
              refine wpAnyH_ready (rs := [13]) (by kernel_rfl) (by simp) ?_
              refine AllReadyH.cons (o := { dst := some 50, op := Op.load 50 (Operand.tmp 49), type := 50, pos := "zsortanyfunc.go:13", after := #[{ on := 12, ground := Ground.data }], guard := none }) rfl (fun K hK => ?_) AllReadyH.nil
              go_simp
              refine hK.out _ _ ?_ (fun hHeld => ?_)
              · trivial
              clear HHeld; have HHeld := Lib.hid hHeld; clear hHeld
              clear hK K
              try simp only [pu, pn, s1, s2, s3]
              refine wT (i := 14) (oi := { dst := some 51, op := Op.indexAddr 25 (Operand.tmp 37) (Operand.tmp 38), type := 0, pos := "zsortanyfunc.go:13", after := #[{ on := 0, ground := Ground.data }, { on := 1, ground := Ground.data }, { on := 0, ground := Ground.phase }, { on := 1, ground := Ground.phase }, { on := 2, ground := Ground.textOnly Departure.lateStores }, { on := 3, ground := Ground.textOnly Departure.lateStores }, { on := 4, ground := Ground.textOnly Departure.lateStores }, { on := 5, ground := Ground.phase }, { on := 6, ground := Ground.phase }, { on := 7, ground := Ground.phase }, { on := 8, ground := Ground.phase }, { on := 9, ground := Ground.phase }, { on := 10, ground := Ground.textOnly Departure.lateStores }, { on := 11, ground := Ground.textOnly Departure.lateStores }, { on := 12, ground := Ground.textOnly Departure.lateStoresUnsure }, { on := 13, ground := Ground.phase }], guard := none }) (v := ?_) rfl (Or.inl ⟨by rfl, ?_⟩) HHeld.out ?_
              rotate_left
              · intro w hSw; clear hSw; go_simp; try with_reducible rfl
              try simp only [pu, pn, s1, s2, s3]
              refine wpAnyH_ready (rs := [15]) (by kernel_rfl) (by simp) ?_
              refine AllReadyH.cons (o := { dst := none, op := Op.store 50 (Operand.tmp 51) (Operand.tmp 46), type := 0, pos := "zsortanyfunc.go:13", after := #[{ on := 14, ground := Ground.data }, { on := 9, ground := Ground.data }, { on := 0, ground := Ground.phase }, { on := 1, ground := Ground.phase }, { on := 2, ground := Ground.textOnly Departure.lateStores }, { on := 3, ground := Ground.textOnly Departure.lateStores }, { on := 4, ground := Ground.textOnly Departure.lateStores }, { on := 5, ground := Ground.phase }, { on := 6, ground := Ground.phase }, { on := 7, ground := Ground.phase }, { on := 8, ground := Ground.phase }, { on := 9, ground := Ground.phase }, { on := 10, ground := Ground.textOnly Departure.lateStores }, { on := 11, ground := Ground.textOnly Departure.lateStores }, { on := 12, ground := Ground.textOnly Departure.lateStoresUnsure }, { on := 13, ground := Ground.phase }], guard := none }) rfl (fun K hK => ?_) AllReadyH.nil
              go_simp
              generalize hW2 : World.setCell _ _ _ = W2
              have I2 := Lib.hid (show InP w b off ((P ++ acc.take k ++ x :: (acc.drop k ++ T)).set j y) W2 by rw [← hW2]; exact (HW.out.set (i := j) (by have := HLEN.out; omega) y))
              clear hW2
              obtain ⟨m0, m1, m2, m3, m4, m5⟩ := I2.out.at (i := p) (x := y) (by rw [List.getElem?_set_ne HNE.out]; exact HGP.out)
              have mf : ∀ q, W2.frozen? ⟨b, q, none⟩ = false := I2.out.frz
              refine hK.out _ _ ?_ (fun hHeld => ?_)
              · trivial
              clear HHeld; have HHeld := Lib.hid hHeld; clear hHeld
              clear hK K
              try simp only [pu, pn, s1, s2, s3]
              refine wT (i := 16) (oi := { dst := some 52, op := Op.indexAddr 25 (Operand.tmp 39) (Operand.tmp 41), type := 0, pos := "zsortanyfunc.go:13", after := #[{ on := 2, ground := Ground.data }, { on := 4, ground := Ground.data }, { on := 0, ground := Ground.phase }, { on := 1, ground := Ground.phase }, { on := 2, ground := Ground.phase }, { on := 3, ground := Ground.phase }, { on := 4, ground := Ground.phase }, { on := 5, ground := Ground.phase }, { on := 6, ground := Ground.phase }, { on := 7, ground := Ground.phase }, { on := 8, ground := Ground.phase }, { on := 9, ground := Ground.phase }, { on := 10, ground := Ground.phase }, { on := 11, ground := Ground.phase }, { on := 12, ground := Ground.phase }, { on := 13, ground := Ground.phase }, { on := 14, ground := Ground.phase }, { on := 15, ground := Ground.phase }], guard := none }) (v := ?_) rfl (Or.inl ⟨by rfl, ?_⟩) HHeld.out ?_
              rotate_left
              · intro w hSw; clear hSw; go_simp; try with_reducible rfl
              try simp only [pu, pn, s1, s2, s3]
              refine wpAnyH_ready (rs := [17]) (by kernel_rfl) (by simp) ?_
              refine AllReadyH.cons (o := { dst := none, op := Op.store 50 (Operand.tmp 52) (Operand.tmp 50), type := 0, pos := "zsortanyfunc.go:13", after := #[{ on := 16, ground := Ground.data }, { on := 13, ground := Ground.data }, { on := 15, ground := Ground.chain }, { on := 0, ground := Ground.phase }, { on := 1, ground := Ground.phase }, { on := 2, ground := Ground.phase }, { on := 3, ground := Ground.phase }, { on := 4, ground := Ground.phase }, { on := 5, ground := Ground.phase }, { on := 6, ground := Ground.phase }, { on := 7, ground := Ground.phase }, { on := 8, ground := Ground.phase }, { on := 9, ground := Ground.phase }, { on := 10, ground := Ground.phase }, { on := 11, ground := Ground.phase }, { on := 12, ground := Ground.phase }, { on := 13, ground := Ground.phase }, { on := 14, ground := Ground.phase }, { on := 15, ground := Ground.phase }], guard := none }) rfl (fun K hK => ?_) AllReadyH.nil
              go_simp
              generalize hW3 : World.setCell _ _ _ = W3
              have I3 := Lib.hid (show InP w b off (((P ++ acc.take k ++ x :: (acc.drop k ++ T)).set j y).set p x) W3 by rw [← hW3]; exact (I2.out.set (i := p) (by have := HLEN.out; simp only [List.length_set]; omega) x))
              clear hW3
              refine hK.out _ _ ?_ (fun hHeld => ?_)
              · trivial
              clear HHeld; have HHeld := Lib.hid hHeld; clear hHeld
              clear hK K
              try simp only [pu, pn, s1, s2, s3]
              refine wpAnyH_done (by kernel_rfl) ?_ _
              have HF := Lib.hid (show InP w b off (P ++ acc.take k' ++ x :: (acc.drop k' ++ T)) W3 by
                have q := I3.out
                rw [HSW.out] at q
                exact q)
              clear HHeld
              go_wp2
              clear wq1 wq2
              exact ⟨⟨k', by have := HKK.out; omega, by have := HJ.out; have := HKK.out; have := HPJ.out; simp; omega, Lib.hid (by rw [HIK.out, HKK.out, insK_yes HY.out HAH.out]), by first | exact HF.out | exact HF.out.later (Below.refl _ _).drew⟩, by simp [intOf]; have := HPJ.out; omega⟩
            · go_simp
              refine hK.out _ _ ?_ (fun hHeld => ?_)
              · trivial
              clear HHeld; have HHeld := Lib.hid hHeld; clear hHeld
              clear hK K
              try simp only [pu, pn, s1, s2, s3]
              refine wpAnyH_ready (rs := [9]) (by kernel_rfl) (by simp) ?_
              refine AllReadyH.cons (o := { dst := some 46, op := Op.load 50 (Operand.tmp 45), type := 50, pos := "zsortanyfunc.go:13", after := #[{ on := 8, ground := Ground.data }], guard := none }) rfl (fun K hK => ?_) AllReadyH.nil
              go_simp
              refine hK.out _ _ ?_ (fun hHeld => ?_)
              · trivial
              clear HHeld; have HHeld := Lib.hid hHeld; clear hHeld
              clear hK K
              try simp only [pu, pn, s1, s2, s3]
              refine wT (i := 14) (oi := { dst := some 51, op := Op.indexAddr 25 (Operand.tmp 37) (Operand.tmp 38), type := 0, pos := "zsortanyfunc.go:13", after := #[{ on := 0, ground := Ground.data }, { on := 1, ground := Ground.data }, { on := 0, ground := Ground.phase }, { on := 1, ground := Ground.phase }, { on := 2, ground := Ground.textOnly Departure.lateStores }, { on := 3, ground := Ground.textOnly Departure.lateStores }, { on := 4, ground := Ground.textOnly Departure.lateStores }, { on := 5, ground := Ground.phase }, { on := 6, ground := Ground.phase }, { on := 7, ground := Ground.phase }, { on := 8, ground := Ground.phase }, { on := 9, ground := Ground.phase }, { on := 10, ground := Ground.textOnly Departure.lateStores }, { on := 11, ground := Ground.textOnly Departure.lateStores }, { on := 12, ground := Ground.textOnly Departure.lateStoresUnsure }, { on := 13, ground := Ground.phase }], guard := none }) (v := ?_) rfl (Or.inl ⟨by rfl, ?_⟩) HHeld.out ?_
              rotate_left
              · intro w hSw; clear hSw; go_simp; try with_reducible rfl
              try simp only [pu, pn, s1, s2, s3]
              refine wpAnyH_ready (rs := [15]) (by kernel_rfl) (by simp) ?_
              refine AllReadyH.cons (o := { dst := none, op := Op.store 50 (Operand.tmp 51) (Operand.tmp 46), type := 0, pos := "zsortanyfunc.go:13", after := #[{ on := 14, ground := Ground.data }, { on := 9, ground := Ground.data }, { on := 0, ground := Ground.phase }, { on := 1, ground := Ground.phase }, { on := 2, ground := Ground.textOnly Departure.lateStores }, { on := 3, ground := Ground.textOnly Departure.lateStores }, { on := 4, ground := Ground.textOnly Departure.lateStores }, { on := 5, ground := Ground.phase }, { on := 6, ground := Ground.phase }, { on := 7, ground := Ground.phase }, { on := 8, ground := Ground.phase }, { on := 9, ground := Ground.phase }, { on := 10, ground := Ground.textOnly Departure.lateStores }, { on := 11, ground := Ground.textOnly Departure.lateStores }, { on := 12, ground := Ground.textOnly Departure.lateStoresUnsure }, { on := 13, ground := Ground.phase }], guard := none }) rfl (fun K hK => ?_) AllReadyH.nil
              go_simp
              generalize hW2 : World.setCell _ _ _ = W2
              have I2 := Lib.hid (show InP w b off ((P ++ acc.take k ++ x :: (acc.drop k ++ T)).set j y) W2 by rw [← hW2]; exact (HW.out.set (i := j) (by have := HLEN.out; omega) y))
              clear hW2
              obtain ⟨m0, m1, m2, m3, m4, m5⟩ := I2.out.at (i := p) (x := y) (by rw [List.getElem?_set_ne HNE.out]; exact HGP.out)
              have mf : ∀ q, W2.frozen? ⟨b, q, none⟩ = false := I2.out.frz
              refine hK.out _ _ ?_ (fun hHeld => ?_)
              · trivial
              clear HHeld; have HHeld := Lib.hid hHeld; clear hHeld
              clear hK K
              try simp only [pu, pn, s1, s2, s3]
              refine wT (i := 16) (oi := { dst := some 52, op := Op.indexAddr 25 (Operand.tmp 39) (Operand.tmp 41), type := 0, pos := "zsortanyfunc.go:13", after := #[{ on := 2, ground := Ground.data }, { on := 4, ground := Ground.data }, { on := 0, ground := Ground.phase }, { on := 1, ground := Ground.phase }, { on := 2, ground := Ground.phase }, { on := 3, ground := Ground.phase }, { on := 4, ground := Ground.phase }, { on := 5, ground := Ground.phase }, { on := 6, ground := Ground.phase }, { on := 7, ground := Ground.phase }, { on := 8, ground := Ground.phase }, { on := 9, ground := Ground.phase }, { on := 10, ground := Ground.phase }, { on := 11, ground := Ground.phase }, { on := 12, ground := Ground.phase }, { on := 13, ground := Ground.phase }, { on := 14, ground := Ground.phase }, { on := 15, ground := Ground.phase }], guard := none }) (v := ?_) rfl (Or.inl ⟨by rfl, ?_⟩) HHeld.out ?_
              rotate_left
              · intro w hSw; clear hSw; go_simp; try with_reducible rfl
              try simp only [pu, pn, s1, s2, s3]
              refine wpAnyH_ready (rs := [17]) (by kernel_rfl) (by simp) ?_
              refine AllReadyH.cons (o := { dst := none, op := Op.store 50 (Operand.tmp 52) (Operand.tmp 50), type := 0, pos := "zsortanyfunc.go:13", after := #[{ on := 16, ground := Ground.data }, { on := 13, ground := Ground.data }, { on := 15, ground := Ground.chain }, { on := 0, ground := Ground.phase }, { on := 1, ground := Ground.phase }, { on := 2, ground := Ground.phase }, { on := 3, ground := Ground.phase }, { on := 4, ground := Ground.phase }, { on := 5, ground := Ground.phase }, { on := 6, ground := Ground.phase }, { on := 7, ground := Ground.phase }, { on := 8, ground := Ground.phase }, { on := 9, ground := Ground.phase }, { on := 10, ground := Ground.phase }, { on := 11, ground := Ground.phase }, { on := 12, ground := Ground.phase }, { on := 13, ground := Ground.phase }, { on := 14, ground := Ground.phase }, { on := 15, ground := Ground.phase }], guard := none }) rfl (fun K hK => ?_) AllReadyH.nil
              go_simp
              generalize hW3 : World.setCell _ _ _ = W3
              have I3 := Lib.hid (show InP w b off (((P ++ acc.take k ++ x :: (acc.drop k ++ T)).set j y).set p x) W3 by rw [← hW3]; exact (I2.out.set (i := p) (by have := HLEN.out; simp only [List.length_set]; omega) x))
              clear hW3
              refine hK.out _ _ ?_ (fun hHeld => ?_)
              · trivial
              clear HHeld; have HHeld := Lib.hid hHeld; clear hHeld
              clear hK K
              try simp only [pu, pn, s1, s2, s3]
              refine wpAnyH_done (by kernel_rfl) ?_ _
              have HF := Lib.hid (show InP w b off (P ++ acc.take k' ++ x :: (acc.drop k' ++ T)) W3 by
                have q := I3.out
                rw [HSW.out] at q
                exact q)
              clear HHeld
              go_wp2
              clear wq1 wq2
              exact ⟨⟨k', by have := HKK.out; omega, by have := HJ.out; have := HKK.out; have := HPJ.out; simp; omega, Lib.hid (by rw [HIK.out, HKK.out, insK_yes HY.out HAH.out]), by first | exact HF.out | exact HF.out.later (Below.refl _ _).drew⟩, by simp [intOf]; have := HPJ.out; omega⟩
    · have hk1 : ¬ (i : Int) < (e : Int) := by omega
      have HF := Lib.hid (show InP w b off (P ++ stab M ++ S) wr by
        have z := HQ.out
        have hqm : M.length ≤ q := by have := HE.out; omega
        rw [List.take_of_length_le hqm, List.drop_eq_nil_of_le hqm] at z
        exact z)
      clear HQ
      go_wp2
      go_end0
      exact ⟨rfl, by first | exact HF.out | (rw [← List.append_assoc]; exact HF.out)⟩
end Go.Proofs.YtilnpeekajnlhaaGreat
