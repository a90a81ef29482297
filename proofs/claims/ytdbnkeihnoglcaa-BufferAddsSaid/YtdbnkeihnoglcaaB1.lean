/- The law BufferLooks answers true. -/
import Derived.Test.YtdbnkeihnoglcaaL2
namespace Go.Proofs.Ytdbnkeihnoglcaa
set_option linter.unusedSimpArgs false
open Go.RowKit Go.Maps
set_option linter.unusedVariables false
theorem few_any (A : Option Addr) (n cap : Nat) (w : World) (hnc : n ≤ cap) (hc : cap ≤ 9223372036854775807) :
    Calls Try.prog 8 #[.slice A n cap] w fun r w' => r = .returned (.slice A (min n 30) cap) ∧ w = w' := by
  go_enter Try.func8, Try.ntmps8
  by_cases h : n ≤ 30
  · have h1 : min (n : Int) 30 = (n : Int) := by omega
    have h2 : min n 30 = n := by omega
    rw [h2]
    go_wp2
    go_ret
    exact ⟨rfl, rfl⟩
  · have h1 : min (n : Int) 30 = 30 := by omega
    have h2 : min n 30 = 30 := by omega
    have h3 : 30 ≤ cap := by omega
    rw [h2]
    go_wp2
    go_ret
    exact ⟨rfl, rfl⟩
def lastN (xs : List MG) (k : Nat) : Int := match k with
  | 0 => 0
  | j + 1 => match xs[j]? with | some p => p.sq | none => 0
theorem last_new {xs : List MG} (h : rightB xs = true) : ∀ k, k ≤ xs.length → newN (xs.take k) = lastN xs k := by
  intro k
  induction k with
  | zero => intro _; rfl
  | succ k ih =>
    intro hk
    obtain ⟨x, hx⟩ : ∃ x, xs[k]? = some x := ⟨_, List.getElem?_eq_getElem (by omega)⟩
    have e : lastN xs (k + 1) = x.sq := by simp [lastN, hx]
    rw [newN_next hx, e]
    cases k with
    | zero => simp
    | succ j =>
      rw [if_neg (Nat.succ_ne_zero j), ih (by omega)]
      obtain ⟨p, hp⟩ : ∃ p, xs[j]? = some p := ⟨_, List.getElem?_eq_getElem (by omega)⟩
      have e2 : lastN xs (j + 1) = p.sq := by simp [lastN, hp]
      rw [e2]
      have hr := right_at h (i := j + 1) (by omega)
      rw [rcI_succ hp hx, Bool.and_eq_true] at hr
      have ha := hr.2
      unfold rcP at ha
      rw [Bool.and_eq_true] at ha
      have ha1 := ha.1
      unfold aheadM at ha1
      simp only [Bool.or_eq_true, decide_eq_true_eq, Bool.and_eq_true, beq_iff_eq] at ha1
      rcases ha1 with a | ⟨a, _⟩
      · rw [if_pos a]
      · rw [a]; simp
theorem min_le30 (n : Nat) : min n 30 ≤ 30 := by omega
set_option maxRecDepth 100000 in
set_option maxHeartbeats 8000000 in
theorem looks_few (A : Option Addr) (m cap : Nat) (ys : List MG) (r0 r1 s : ByteArray) (n : Nat) (w : World) (hmn : min n 30 = m) (hnc : n ≤ cap) (hc : cap ≤ 9223372036854775807) (hl : ys.length = m) (hA : EG.Rd w A ys) (ho : OkA ys) :
    Calls Try.prog 3 #[.slice A n cap, .agg #[.string r0, .string r1], .string s] w fun r w' => r = .returned (.bool true) ∧ Below w.heap.size w w' := by
  have hm : m ≤ 1000 := by have := min_le30 n; omega
  have HL := Lib.hid hl
  have HO := Lib.hid ho
  have HA := Lib.hid (fun W (hW : Below w.heap.size w W) => hA.later hW)
  have H0 := Lib.hid (alb w (rgc r0 r1))
  have z0 := Lib.hid (heap_alloc_new w (rgc r0 r1))
  have AF := Lib.hid (few_any A n cap (w.alloc (rgc r0 r1)) hnc hc)
  rw [hmn] at AF
  have HAL : Hid ((atL s ys).length ≤ 1000) := Lib.hid (Nat.le_trans (List.length_filter_le _ _) (by rw [hl]; exact hm))
  clear hl hA ho hmn hnc hc
  obtain ⟨q, hq⟩ : ∃ q, q = rightB ys := ⟨_, rfl⟩
  have AR : Hid (∀ W, Below w.heap.size w W → Calls Try.prog 9 #[.slice A m cap] W fun r w' => r = .returned (.bool q) ∧ Below W.heap.size W w') := Lib.hid (fun W hW => by rw [hq]; exact right_any A m cap ys W HL.out hm (HA.out W hW) HO.out)
  have AQ : Hid (∀ W, Below w.heap.size w W → Calls Try.prog 10 #[.slice A m cap] W fun r w' => r = .returned (.bool q) ∧ Below W.heap.size W w') := Lib.hid (fun W hW => by rw [hq]; exact rright_all A m cap ys W HL.out hm (HA.out W hW) HO.out)
  have HQ := Lib.hid hq
  clear hq
  go_enter Try.func3, Try.ntmps3
  cases q
  · go_wp2_with (first
      | (go_at_call 8; ((with_reducible refine AF.out.mono ?_); rintro e w1 ⟨rfl, rfl⟩))
      | (go_at_call 9; ((with_reducible refine (AR.out _ H0.out).mono ?_); rintro e w1 ⟨rfl, b1⟩; have B1 := Lib.hid (bel_trans H0.out b1); clear b1))
      | (go_at_call 10; ((with_reducible refine (AQ.out _ B1.out).mono ?_); rintro e w2 ⟨rfl, b2⟩; replace B1 := Lib.hid (bel_trans B1.out b2); clear b2))
      | (go_at_call 11; ((with_reducible refine (live_true _).mono ?_); rintro e w3 ⟨rfl, b3⟩; have B3 := Lib.hid (bel_trans B1.out b3); clear b3))
      | fail)
    go_ret
    exact ⟨rfl, B3.out⟩
  · go_wp2_with (first
      | (go_at_call 8; ((with_reducible refine AF.out.mono ?_); rintro e w1 ⟨rfl, rfl⟩))
      | (go_at_call 9; ((with_reducible refine (AR.out _ H0.out).mono ?_); rintro e w1 ⟨rfl, b1⟩; have B1 := Lib.hid (bel_trans H0.out b1); have Z1 := Lib.hid (keep_bel b1 z0.out); clear b1))
      | (go_at_call 10; ((with_reducible refine (AQ.out _ B1.out).mono ?_); rintro e w2 ⟨rfl, b2⟩; replace B1 := Lib.hid (bel_trans B1.out b2); replace Z1 := Lib.hid (keep_bel b2 Z1.out); clear b2))
      | fail)
    rename_i wz
    go_loopw [7, 8] (fun sv iv wr => ∃ (k : Nat), k ≤ m ∧ iv = .int .i64 k ∧ sv = .int .i64 (lastN ys k) ∧ Below w.heap.size w wr ∧ Hid (wr.heap[w.heap.size]? = some (rgc r0 r1))) (fun _ i _ => m - (intOf i).toNat)
    case atStart => exact ⟨0, by omega, rfl, rfl, B1.out, Z1⟩
    case round =>
      obtain ⟨k, hk, rfl, rfl, hb, ZR⟩ := hrel
      have HB := Lib.hid hb
      clear hb
      by_cases h8 : k < m
      · have hk1 : (k : Int) < (m : Int) := by omega
        have hk0 : (0 : Int) ≤ (k : Int) := by omega
        obtain ⟨x, hx⟩ : ∃ x, ys[k]? = some x := ⟨_, List.getElem?_eq_getElem (by rw [HL.out]; omega)⟩
        obtain ⟨b, off, rfl, hlt, g0, g1, g2, g3, g4, g5⟩ := eg_at (HA.out _ HB.out) hx
        have HX := Lib.hid (show lastN ys (k + 1) = x.sq by simp [lastN, hx])
        clear hx hlt
        go_wp2
        exact ⟨⟨k + 1, by omega, by simp, by rw [HX.out], HB.out, ZR⟩, by simp [intOf]; omega⟩
      · have hk1 : ¬ (k : Int) < (m : Int) := by omega
        have hkm : k = m := by omega
        have HNW : Hid (newN ys = lastN ys k) := Lib.hid (by
          have q := last_new (xs := ys) HQ.out.symm k (by rw [HL.out]; omega)
          rw [List.take_of_length_le (by rw [HL.out]; omega)] at q
          exact q)
        clear hkm
        obtain ⟨d0, d1, -, -⟩ := has_two ZR.out
        obtain ⟨v, hv⟩ : ∃ v, v = lastN ys k := ⟨_, rfl⟩
        rw [← hv] at HNW ⊢
        clear hv
        have KS := Lib.hid (fun (V : World) (h1 : Below w.heap.size w V) (h2 : V.cell? ⟨w.heap.size, 0, none⟩ = some (.string r0)) (h3 : V.cell? ⟨w.heap.size, 1, none⟩ = some (.string r1)) => (⟨h1, h2, h3⟩ : Below w.heap.size w V ∧ V.cell? ⟨w.heap.size, 0, none⟩ = some (.string r0) ∧ V.cell? ⟨w.heap.size, 1, none⟩ = some (.string r1)))
        go_wp2_with fail
        refine wp_region_held_drew (S := (fun V : World => Below w.heap.size w V ∧ V.cell? ⟨w.heap.size, 0, none⟩ = some (.string r0) ∧ V.cell? ⟨w.heap.size, 1, none⟩ = some (.string r1))) (by kernel_rfl) ?_ (fun hHeld => ?_)
        · exact KS.out _ (HB.out.drew) d0 d1
        have HHeld := Lib.hid hHeld; clear hHeld
        refine wpAnyH_ready (rs := [0]) (by kernel_rfl) (by simp) ?_
        refine AllReadyH.cons (o := { dst := some 31, op := Op.call { callee := Callee.value (Operand.func 11), args := #[], argTypes := #[] }, type := 4, pos := "law.go:36", after := #[], guard := none }) rfl (fun K hK => ?_) AllReadyH.nil
        go_simp
        go_at_call 11; ((with_reducible refine (live_true _).mono ?_); rintro e v0 ⟨rfl, b0⟩; have K0 := Lib.hid (KS.out v0 (bel_trans HHeld.out.1 b0) (bel_later b0 HHeld.out.2.1) (bel_later b0 HHeld.out.2.2)); clear b0)
        refine hK.out _ _ ?_ (fun hHeld => ?_)
        · exact K0.out
        clear HHeld; have HHeld := Lib.hid hHeld; clear hHeld
        clear hK K
        try simp only [Act.put, List.setIfInBounds_toArray, List.set_cons_zero, List.set_cons_succ]
        refine wpAnyH_take (i := 1) (oi := { dst := some 32, op := Op.move (Operand.tmp 31), type := 4, pos := "law.go:36", after := #[{ on := 0, ground := Ground.data }, { on := 0, ground := Ground.chain }], guard := none }) (v := ?_) rfl (by kernel_rfl) (by kernel_rfl) (by kernel_rfl) (fun _ _ _ h => h) (Or.inl ⟨by rfl, ?_⟩) HHeld.out ?_
        rotate_left
        · intro w hSw; clear hSw; go_simp; try with_reducible rfl
        try simp only [Act.put, List.setIfInBounds_toArray, List.set_cons_zero, List.set_cons_succ]
        refine wpAnyH_take (i := 2) (oi := { dst := some 33, op := Op.move (Operand.tmp 0), type := 22, pos := "law.go:36", after := #[{ on := 1, ground := Ground.guard }], guard := some (1, true) }) (v := ?_) rfl (by kernel_rfl) (by kernel_rfl) (by kernel_rfl) (fun _ _ _ h => h) (Or.inl ⟨by rfl, ?_⟩) HHeld.out ?_
        rotate_left
        · intro w hSw; clear hSw; go_simp; try with_reducible rfl
        try simp only [Act.put, List.setIfInBounds_toArray, List.set_cons_zero, List.set_cons_succ]
        refine wpAnyH_take (i := 4) (oi := { dst := some 35, op := Op.move (Operand.tmp 0), type := 22, pos := "law.go:36", after := #[{ on := 1, ground := Ground.guard }], guard := some (1, true) }) (v := ?_) rfl (by kernel_rfl) (by kernel_rfl) (by kernel_rfl) (fun _ _ _ h => h) (Or.inl ⟨by rfl, ?_⟩) HHeld.out ?_
        rotate_left
        · intro w hSw; clear hSw; go_simp; try with_reducible rfl
        try simp only [Act.put, List.setIfInBounds_toArray, List.set_cons_zero, List.set_cons_succ]
        refine wpAnyH_ready (rs := [3]) (by kernel_rfl) (by simp) ?_
        refine AllReadyH.cons (o := { dst := some 34, op := Op.call { callee := Callee.value (Operand.func 12), args := #[Operand.tmp 33], argTypes := #[22] }, type := 3, pos := "law.go:36", after := #[{ on := 2, ground := Ground.data }, { on := 1, ground := Ground.chain }, { on := 1, ground := Ground.guard }], guard := some (1, true) }) rfl (fun K hK => ?_) AllReadyH.nil
        go_simp
        go_at_call 12; ((with_reducible refine (bytes_any A m cap ys _ HL.out hm (HA.out _ HHeld.out.1) HO.out).mono ?_); rintro e v3 ⟨rfl, b3⟩; have K3 := Lib.hid (KS.out v3 (bel_trans HHeld.out.1 b3) (bel_later b3 HHeld.out.2.1) (bel_later b3 HHeld.out.2.2)); clear b3)
        refine hK.out _ _ ?_ (fun hHeld => ?_)
        · exact K3.out
        clear HHeld; have HHeld := Lib.hid hHeld; clear hHeld
        clear hK K
        try simp only [Act.put, List.setIfInBounds_toArray, List.set_cons_zero, List.set_cons_succ]
        refine wpAnyH_ready (rs := [5]) (by kernel_rfl) (by simp) ?_
        refine AllReadyH.cons (o := { dst := some 36, op := Op.call { callee := Callee.value (Operand.func 13), args := #[Operand.tmp 35], argTypes := #[22] }, type := 3, pos := "law.go:36", after := #[{ on := 4, ground := Ground.data }, { on := 3, ground := Ground.chain }, { on := 1, ground := Ground.guard }], guard := some (1, true) }) rfl (fun K hK => ?_) AllReadyH.nil
        go_simp
        go_at_call 13; ((with_reducible refine (rbytes_any A m cap ys _ HL.out hm (HA.out _ HHeld.out.1) HO.out).mono ?_); rintro e v5 ⟨rfl, b5⟩; have K5 := Lib.hid (KS.out v5 (bel_trans HHeld.out.1 b5) (bel_later b5 HHeld.out.2.1) (bel_later b5 HHeld.out.2.2)); clear b5)
        refine hK.out _ _ ?_ (fun hHeld => ?_)
        · exact K5.out
        clear HHeld; have HHeld := Lib.hid hHeld; clear hHeld
        clear hK K
        try simp only [Act.put, List.setIfInBounds_toArray, List.set_cons_zero, List.set_cons_succ]
        refine wpAnyH_take (i := 6) (oi := { dst := some 37, op := Op.binOp BinOp.eql 3 (Operand.tmp 34) (Operand.tmp 36) 3, type := 4, pos := "law.go:36", after := #[{ on := 3, ground := Ground.data }, { on := 5, ground := Ground.data }, { on := 1, ground := Ground.guard }], guard := some (1, true) }) (v := ?_) rfl (by kernel_rfl) (by kernel_rfl) (by kernel_rfl) (fun _ _ _ h => h) (Or.inl ⟨by rfl, ?_⟩) HHeld.out ?_
        rotate_left
        · intro w hSw; clear hSw; go_simp; try with_reducible rfl
        try simp only [Act.put, List.setIfInBounds_toArray, List.set_cons_zero, List.set_cons_succ]
        refine wpAnyH_take (i := 7) (oi := { dst := some 38, op := Op.pick (Operand.tmp 32) (Operand.tmp 37) (Operand.const (Value.bool false)), type := 4, pos := "law.go:36", after := #[{ on := 1, ground := Ground.data }, { on := 6, ground := Ground.data }], guard := none }) (v := ?_) rfl (by kernel_rfl) (by kernel_rfl) (by kernel_rfl) (fun _ _ _ h => h) (Or.inl ⟨by rfl, ?_⟩) HHeld.out ?_
        rotate_left
        · intro w hSw; clear hSw; go_simp; try with_reducible rfl
        try simp only [Act.put, List.setIfInBounds_toArray, List.set_cons_zero, List.set_cons_succ]
        refine wpAnyH_take (i := 8) (oi := { dst := some 39, op := Op.move (Operand.tmp 38), type := 4, pos := "law.go:36", after := #[{ on := 7, ground := Ground.data }, { on := 5, ground := Ground.chain }], guard := none }) (v := ?_) rfl (by kernel_rfl) (by kernel_rfl) (by kernel_rfl) (fun _ _ _ h => h) (Or.inl ⟨by rfl, ?_⟩) HHeld.out ?_
        rotate_left
        · intro w hSw; clear hSw; go_simp; try with_reducible rfl
        try simp only [Act.put, List.setIfInBounds_toArray, List.set_cons_zero, List.set_cons_succ]
        refine wpAnyH_take (i := 9) (oi := { dst := some 40, op := Op.move (Operand.tmp 0), type := 22, pos := "law.go:36", after := #[{ on := 8, ground := Ground.guard }], guard := some (8, true) }) (v := ?_) rfl (by kernel_rfl) (by kernel_rfl) (by kernel_rfl) (fun _ _ _ h => h) (Or.inl ⟨by rfl, ?_⟩) HHeld.out ?_
        rotate_left
        · intro w hSw; clear hSw; go_simp; try with_reducible rfl
        try simp only [Act.put, List.setIfInBounds_toArray, List.set_cons_zero, List.set_cons_succ]
        refine wpAnyH_take (i := 10) (oi := { dst := some 41, op := Op.move (Operand.tmp 2), type := 9, pos := "law.go:36", after := #[{ on := 8, ground := Ground.guard }], guard := some (8, true) }) (v := ?_) rfl (by kernel_rfl) (by kernel_rfl) (by kernel_rfl) (fun _ _ _ h => h) (Or.inl ⟨by rfl, ?_⟩) HHeld.out ?_
        rotate_left
        · intro w hSw; clear hSw; go_simp; try with_reducible rfl
        try simp only [Act.put, List.setIfInBounds_toArray, List.set_cons_zero, List.set_cons_succ]
        refine wpAnyH_take (i := 12) (oi := { dst := some 43, op := Op.move (Operand.tmp 0), type := 22, pos := "law.go:36", after := #[{ on := 8, ground := Ground.guard }], guard := some (8, true) }) (v := ?_) rfl (by kernel_rfl) (by kernel_rfl) (by kernel_rfl) (fun _ _ _ h => h) (Or.inl ⟨by rfl, ?_⟩) HHeld.out ?_
        rotate_left
        · intro w hSw; clear hSw; go_simp; try with_reducible rfl
        try simp only [Act.put, List.setIfInBounds_toArray, List.set_cons_zero, List.set_cons_succ]
        refine wpAnyH_take (i := 13) (oi := { dst := some 44, op := Op.move (Operand.tmp 2), type := 9, pos := "law.go:36", after := #[{ on := 8, ground := Ground.guard }], guard := some (8, true) }) (v := ?_) rfl (by kernel_rfl) (by kernel_rfl) (by kernel_rfl) (fun _ _ _ h => h) (Or.inl ⟨by rfl, ?_⟩) HHeld.out ?_
        rotate_left
        · intro w hSw; clear hSw; go_simp; try with_reducible rfl
        try simp only [Act.put, List.setIfInBounds_toArray, List.set_cons_zero, List.set_cons_succ]
        refine wpAnyH_ready (rs := [11]) (by kernel_rfl) (by simp) ?_
        refine AllReadyH.cons (o := { dst := some 42, op := Op.call { callee := Callee.value (Operand.func 15), args := #[Operand.tmp 40, Operand.tmp 41], argTypes := #[22, 9] }, type := 22, pos := "law.go:36", after := #[{ on := 9, ground := Ground.data }, { on := 10, ground := Ground.data }, { on := 8, ground := Ground.chain }, { on := 8, ground := Ground.guard }], guard := some (8, true) }) rfl (fun K hK => ?_) AllReadyH.nil
        go_simp
        go_at_call 15; ((with_reducible refine (at_any s A m cap ys _ HL.out hm (HA.out _ HHeld.out.1) HO.out).mono ?_); rintro e v11 ⟨⟨A1, c1, rfl, ra⟩, b11⟩; have K11 := Lib.hid (KS.out v11 (bel_trans HHeld.out.1 b11) (bel_later b11 HHeld.out.2.1) (bel_later b11 HHeld.out.2.2)); have RA := Lib.hid ra.rd; clear ra; clear b11)
        refine hK.out _ _ ?_ (fun hHeld => ?_)
        · exact K11.out
        clear HHeld; have HHeld := Lib.hid hHeld; clear hHeld
        clear hK K
        try simp only [Act.put, List.setIfInBounds_toArray, List.set_cons_zero, List.set_cons_succ]
        refine wpAnyH_ready (rs := [14]) (by kernel_rfl) (by simp) ?_
        refine AllReadyH.cons (o := { dst := some 45, op := Op.call { callee := Callee.value (Operand.func 16), args := #[Operand.tmp 43, Operand.tmp 44], argTypes := #[22, 9] }, type := 22, pos := "law.go:36", after := #[{ on := 12, ground := Ground.data }, { on := 13, ground := Ground.data }, { on := 11, ground := Ground.chain }, { on := 8, ground := Ground.guard }], guard := some (8, true) }) rfl (fun K hK => ?_) AllReadyH.nil
        go_simp
        go_at_call 16; ((with_reducible refine (rat_any s A m cap ys _ HL.out hm (HA.out _ HHeld.out.1)).mono ?_); rintro e v14 ⟨⟨A2, c2, rfl, rb⟩, b14⟩; have K14 := Lib.hid (KS.out v14 (bel_trans HHeld.out.1 b14) (bel_later b14 HHeld.out.2.1) (bel_later b14 HHeld.out.2.2)); have RB := Lib.hid rb.rd; replace RA := Lib.hid (RA.out.later b14); clear rb; clear b14)
        refine hK.out _ _ ?_ (fun hHeld => ?_)
        · exact K14.out
        clear HHeld; have HHeld := Lib.hid hHeld; clear hHeld
        clear hK K
        try simp only [Act.put, List.setIfInBounds_toArray, List.set_cons_zero, List.set_cons_succ]
        refine wpAnyH_ready (rs := [15]) (by kernel_rfl) (by simp) ?_
        refine AllReadyH.cons (o := { dst := some 46, op := Op.call { callee := Callee.value (Operand.func 14), args := #[Operand.tmp 42, Operand.tmp 45], argTypes := #[22, 22] }, type := 4, pos := "law.go:36", after := #[{ on := 11, ground := Ground.data }, { on := 14, ground := Ground.data }, { on := 14, ground := Ground.chain }, { on := 8, ground := Ground.guard }], guard := some (8, true) }) rfl (fun K hK => ?_) AllReadyH.nil
        go_simp
        go_at_call 14; ((with_reducible refine (same_any A1 A2 _ c1 c2 (atL s ys) _ rfl HAL.out RA.out RB.out).mono ?_); rintro e v15 ⟨rfl, b15⟩; have K15 := Lib.hid (KS.out v15 (bel_trans HHeld.out.1 b15) (bel_later b15 HHeld.out.2.1) (bel_later b15 HHeld.out.2.2)); clear b15)
        refine hK.out _ _ ?_ (fun hHeld => ?_)
        · exact K15.out
        clear HHeld; have HHeld := Lib.hid hHeld; clear hHeld
        clear hK K
        try simp only [Act.put, List.setIfInBounds_toArray, List.set_cons_zero, List.set_cons_succ]
        refine wpAnyH_take (i := 16) (oi := { dst := some 47, op := Op.pick (Operand.tmp 39) (Operand.tmp 46) (Operand.const (Value.bool false)), type := 4, pos := "law.go:36", after := #[{ on := 8, ground := Ground.data }, { on := 15, ground := Ground.data }], guard := none }) (v := ?_) rfl (by kernel_rfl) (by kernel_rfl) (by kernel_rfl) (fun _ _ _ h => h) (Or.inl ⟨by rfl, ?_⟩) HHeld.out ?_
        rotate_left
        · intro w hSw; clear hSw; go_simp; try with_reducible rfl
        try simp only [Act.put, List.setIfInBounds_toArray, List.set_cons_zero, List.set_cons_succ]
        refine wpAnyH_take (i := 17) (oi := { dst := some 48, op := Op.move (Operand.tmp 47), type := 4, pos := "law.go:36", after := #[{ on := 16, ground := Ground.data }, { on := 15, ground := Ground.chain }], guard := none }) (v := ?_) rfl (by kernel_rfl) (by kernel_rfl) (by kernel_rfl) (fun _ _ _ h => h) (Or.inl ⟨by rfl, ?_⟩) HHeld.out ?_
        rotate_left
        · intro w hSw; clear hSw; go_simp; try with_reducible rfl
        try simp only [Act.put, List.setIfInBounds_toArray, List.set_cons_zero, List.set_cons_succ]
        refine wpAnyH_take (i := 18) (oi := { dst := some 49, op := Op.move (Operand.tmp 0), type := 22, pos := "law.go:36", after := #[{ on := 17, ground := Ground.guard }], guard := some (17, true) }) (v := ?_) rfl (by kernel_rfl) (by kernel_rfl) (by kernel_rfl) (fun _ _ _ h => h) (Or.inl ⟨by rfl, ?_⟩) HHeld.out ?_
        rotate_left
        · intro w hSw; clear hSw; go_simp; try with_reducible rfl
        try simp only [Act.put, List.setIfInBounds_toArray, List.set_cons_zero, List.set_cons_succ]
        refine wpAnyH_take (i := 19) (oi := { dst := some 50, op := Op.load 24 (Operand.tmp 4), type := 24, pos := "law.go:36", after := #[{ on := 17, ground := Ground.guard }], guard := some (17, true) }) (v := (.agg #[.string r0, .string r1] : Value)) rfl (by kernel_rfl) (by kernel_rfl) (by kernel_rfl) (fun _ _ _ h => h) (Or.inl ⟨by rfl, ?_⟩) HHeld.out ?_
        · intro V hV; have hc0 := hV.2.1; have hc1 := hV.2.2; clear hV; go_simp
        try simp only [Act.put, List.setIfInBounds_toArray, List.set_cons_zero, List.set_cons_succ]
        refine wpAnyH_take (i := 21) (oi := { dst := some 52, op := Op.move (Operand.tmp 0), type := 22, pos := "law.go:36", after := #[{ on := 17, ground := Ground.guard }], guard := some (17, true) }) (v := ?_) rfl (by kernel_rfl) (by kernel_rfl) (by kernel_rfl) (fun _ _ _ h => h) (Or.inl ⟨by rfl, ?_⟩) HHeld.out ?_
        rotate_left
        · intro w hSw; clear hSw; go_simp; try with_reducible rfl
        try simp only [Act.put, List.setIfInBounds_toArray, List.set_cons_zero, List.set_cons_succ]
        refine wpAnyH_take (i := 22) (oi := { dst := some 53, op := Op.load 24 (Operand.tmp 4), type := 24, pos := "law.go:36", after := #[{ on := 17, ground := Ground.guard }], guard := some (17, true) }) (v := (.agg #[.string r0, .string r1] : Value)) rfl (by kernel_rfl) (by kernel_rfl) (by kernel_rfl) (fun _ _ _ h => h) (Or.inl ⟨by rfl, ?_⟩) HHeld.out ?_
        · intro V hV; have hc0 := hV.2.1; have hc1 := hV.2.2; clear hV; go_simp
        try simp only [Act.put, List.setIfInBounds_toArray, List.set_cons_zero, List.set_cons_succ]
        refine wpAnyH_ready (rs := [20]) (by kernel_rfl) (by simp) ?_
        refine AllReadyH.cons (o := { dst := some 51, op := Op.call { callee := Callee.value (Operand.func 17), args := #[Operand.tmp 49, Operand.tmp 50], argTypes := #[22, 24] }, type := 4, pos := "law.go:36", after := #[{ on := 18, ground := Ground.data }, { on := 19, ground := Ground.data }, { on := 17, ground := Ground.chain }, { on := 17, ground := Ground.guard }], guard := some (17, true) }) rfl (fun K hK => ?_) AllReadyH.nil
        go_simp
        go_at_call 17; ((with_reducible refine (withinA_any r0 r1 A m cap ys _ HL.out hm (HA.out _ HHeld.out.1) HO.out).mono ?_); rintro e v20 ⟨rfl, b20⟩; have K20 := Lib.hid (KS.out v20 (bel_trans HHeld.out.1 b20) (bel_later b20 HHeld.out.2.1) (bel_later b20 HHeld.out.2.2)); clear b20)
        refine hK.out _ _ ?_ (fun hHeld => ?_)
        · exact K20.out
        clear HHeld; have HHeld := Lib.hid hHeld; clear hHeld
        clear hK K
        try simp only [Act.put, List.setIfInBounds_toArray, List.set_cons_zero, List.set_cons_succ]
        refine wpAnyH_ready (rs := [23]) (by kernel_rfl) (by simp) ?_
        refine AllReadyH.cons (o := { dst := some 54, op := Op.call { callee := Callee.value (Operand.func 18), args := #[Operand.tmp 52, Operand.tmp 53], argTypes := #[22, 24] }, type := 4, pos := "law.go:36", after := #[{ on := 21, ground := Ground.data }, { on := 22, ground := Ground.data }, { on := 20, ground := Ground.chain }, { on := 17, ground := Ground.guard }], guard := some (17, true) }) rfl (fun K hK => ?_) AllReadyH.nil
        go_simp
        go_at_call 18; ((with_reducible refine (rwithinA_any r0 r1 A m cap ys _ HL.out hm (HA.out _ HHeld.out.1) HO.out).mono ?_); rintro e v23 ⟨rfl, b23⟩; have K23 := Lib.hid (KS.out v23 (bel_trans HHeld.out.1 b23) (bel_later b23 HHeld.out.2.1) (bel_later b23 HHeld.out.2.2)); clear b23)
        refine hK.out _ _ ?_ (fun hHeld => ?_)
        · exact K23.out
        clear HHeld; have HHeld := Lib.hid hHeld; clear hHeld
        clear hK K
        try simp only [Act.put, List.setIfInBounds_toArray, List.set_cons_zero, List.set_cons_succ]
        refine wpAnyH_take (i := 24) (oi := { dst := some 55, op := Op.binOp BinOp.eql 4 (Operand.tmp 51) (Operand.tmp 54) 4, type := 4, pos := "law.go:36", after := #[{ on := 20, ground := Ground.data }, { on := 23, ground := Ground.data }, { on := 17, ground := Ground.guard }], guard := some (17, true) }) (v := ?_) rfl (by kernel_rfl) (by kernel_rfl) (by kernel_rfl) (fun _ _ _ h => h) (Or.inl ⟨by rfl, ?_⟩) HHeld.out ?_
        rotate_left
        · intro w hSw; clear hSw; go_simp; try with_reducible rfl
        try simp only [Act.put, List.setIfInBounds_toArray, List.set_cons_zero, List.set_cons_succ]
        refine wpAnyH_take (i := 25) (oi := { dst := some 56, op := Op.pick (Operand.tmp 48) (Operand.tmp 55) (Operand.const (Value.bool false)), type := 4, pos := "law.go:36", after := #[{ on := 17, ground := Ground.data }, { on := 24, ground := Ground.data }], guard := none }) (v := ?_) rfl (by kernel_rfl) (by kernel_rfl) (by kernel_rfl) (fun _ _ _ h => h) (Or.inl ⟨by rfl, ?_⟩) HHeld.out ?_
        rotate_left
        · intro w hSw; clear hSw; go_simp; try with_reducible rfl
        try simp only [Act.put, List.setIfInBounds_toArray, List.set_cons_zero, List.set_cons_succ]
        refine wpAnyH_take (i := 26) (oi := { dst := some 57, op := Op.move (Operand.tmp 56), type := 4, pos := "law.go:36", after := #[{ on := 25, ground := Ground.data }, { on := 23, ground := Ground.chain }], guard := none }) (v := ?_) rfl (by kernel_rfl) (by kernel_rfl) (by kernel_rfl) (fun _ _ _ h => h) (Or.inl ⟨by rfl, ?_⟩) HHeld.out ?_
        rotate_left
        · intro w hSw; clear hSw; go_simp; try with_reducible rfl
        try simp only [Act.put, List.setIfInBounds_toArray, List.set_cons_zero, List.set_cons_succ]
        refine wpAnyH_take (i := 27) (oi := { dst := some 58, op := Op.move (Operand.tmp 0), type := 22, pos := "law.go:36", after := #[{ on := 26, ground := Ground.guard }], guard := some (26, true) }) (v := ?_) rfl (by kernel_rfl) (by kernel_rfl) (by kernel_rfl) (fun _ _ _ h => h) (Or.inl ⟨by rfl, ?_⟩) HHeld.out ?_
        rotate_left
        · intro w hSw; clear hSw; go_simp; try with_reducible rfl
        try simp only [Act.put, List.setIfInBounds_toArray, List.set_cons_zero, List.set_cons_succ]
        refine wpAnyH_take (i := 29) (oi := { dst := some 60, op := Op.move (Operand.tmp 7), type := 3, pos := "law.go:36", after := #[{ on := 26, ground := Ground.guard }], guard := some (26, true) }) (v := ?_) rfl (by kernel_rfl) (by kernel_rfl) (by kernel_rfl) (fun _ _ _ h => h) (Or.inl ⟨by rfl, ?_⟩) HHeld.out ?_
        rotate_left
        · intro w hSw; clear hSw; go_simp; try with_reducible rfl
        try simp only [Act.put, List.setIfInBounds_toArray, List.set_cons_zero, List.set_cons_succ]
        refine wpAnyH_ready (rs := [28]) (by kernel_rfl) (by simp) ?_
        refine AllReadyH.cons (o := { dst := some 59, op := Op.call { callee := Callee.value (Operand.func 19), args := #[Operand.tmp 58], argTypes := #[22] }, type := 3, pos := "law.go:36", after := #[{ on := 27, ground := Ground.data }, { on := 26, ground := Ground.chain }, { on := 26, ground := Ground.guard }], guard := some (26, true) }) rfl (fun K hK => ?_) AllReadyH.nil
        go_simp
        go_at_call 19; ((with_reducible refine (newest_any A m cap ys _ HL.out hm (HA.out _ HHeld.out.1)).mono ?_); rintro e v28 ⟨rfl, b28⟩; have K28 := Lib.hid (KS.out v28 (bel_trans HHeld.out.1 b28) (bel_later b28 HHeld.out.2.1) (bel_later b28 HHeld.out.2.2)); clear b28)
        refine hK.out _ _ ?_ (fun hHeld => ?_)
        · exact K28.out
        clear HHeld; have HHeld := Lib.hid hHeld; clear hHeld
        clear hK K
        try simp only [Act.put, List.setIfInBounds_toArray, List.set_cons_zero, List.set_cons_succ]
        refine wpAnyH_take (i := 30) (oi := { dst := some 61, op := Op.binOp BinOp.eql 3 (Operand.tmp 59) (Operand.tmp 60) 3, type := 4, pos := "law.go:36", after := #[{ on := 28, ground := Ground.data }, { on := 29, ground := Ground.data }, { on := 26, ground := Ground.guard }], guard := some (26, true) }) (v := ?_) rfl (by kernel_rfl) (by kernel_rfl) (by kernel_rfl) (fun _ _ _ h => h) (Or.inl ⟨by rfl, ?_⟩) HHeld.out ?_
        rotate_left
        · intro w hSw; clear hSw; go_simp; try with_reducible rfl
        try simp only [Act.put, List.setIfInBounds_toArray, List.set_cons_zero, List.set_cons_succ]
        refine wpAnyH_take (i := 31) (oi := { dst := some 62, op := Op.pick (Operand.tmp 57) (Operand.tmp 61) (Operand.const (Value.bool false)), type := 4, pos := "law.go:36", after := #[{ on := 26, ground := Ground.data }, { on := 30, ground := Ground.data }], guard := none }) (v := ?_) rfl (by kernel_rfl) (by kernel_rfl) (by kernel_rfl) (fun _ _ _ h => h) (Or.inl ⟨by rfl, ?_⟩) HHeld.out ?_
        rotate_left
        · intro w hSw; clear hSw; go_simp; try with_reducible rfl
        try simp only [Act.put, List.setIfInBounds_toArray, List.set_cons_zero, List.set_cons_succ]
        refine wpAnyH_take (i := 32) (oi := { dst := some 6, op := Op.assign (Operand.tmp 62), type := 4, pos := "law.go:36", after := #[{ on := 31, ground := Ground.data }, { on := 28, ground := Ground.chain }, { on := 0, ground := Ground.phase }, { on := 1, ground := Ground.phase }, { on := 2, ground := Ground.phase }, { on := 3, ground := Ground.phase }, { on := 4, ground := Ground.phase }, { on := 5, ground := Ground.phase }, { on := 6, ground := Ground.phase }, { on := 7, ground := Ground.phase }, { on := 8, ground := Ground.phase }, { on := 9, ground := Ground.phase }, { on := 10, ground := Ground.phase }, { on := 11, ground := Ground.phase }, { on := 12, ground := Ground.phase }, { on := 13, ground := Ground.phase }, { on := 14, ground := Ground.phase }, { on := 15, ground := Ground.phase }, { on := 16, ground := Ground.phase }, { on := 17, ground := Ground.phase }, { on := 18, ground := Ground.phase }, { on := 19, ground := Ground.phase }, { on := 20, ground := Ground.phase }, { on := 21, ground := Ground.phase }, { on := 22, ground := Ground.phase }, { on := 23, ground := Ground.phase }, { on := 24, ground := Ground.phase }, { on := 25, ground := Ground.phase }, { on := 26, ground := Ground.phase }, { on := 27, ground := Ground.phase }, { on := 28, ground := Ground.phase }, { on := 29, ground := Ground.phase }, { on := 30, ground := Ground.phase }, { on := 31, ground := Ground.phase }], guard := none }) (v := ?_) rfl (by kernel_rfl) (by kernel_rfl) (by kernel_rfl) (fun _ _ _ h => h) (Or.inl ⟨by rfl, ?_⟩) HHeld.out ?_
        rotate_left
        · intro w hSw; clear hSw; go_simp; try with_reducible rfl
        try simp only [Act.put, List.setIfInBounds_toArray, List.set_cons_zero, List.set_cons_succ]
        refine wpAnyH_done (by kernel_rfl) ?_ _
        have CE := Lib.hid HHeld.out.1
        clear HHeld
        trace_state
        go_wp2
        go_ret
        exact ⟨by first | rfl | (rw [HNW.out]; simp) | simp, CE.out⟩
end Go.Proofs.Ytdbnkeihnoglcaa
