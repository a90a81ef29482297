/- Rest of messages, as the document says it. -/
import Derived.Test.YtdbnkeihnoglcaaT4
namespace Go.Proofs.Ytdbnkeihnoglcaa
set_option linter.unusedSimpArgs false
open Go.RowKit Go.Maps
set_option linter.unusedVariables false
set_option maxRecDepth 100000 in
set_option maxHeartbeats 8000000 in
theorem rres_any (a b : ByteArray) (A : Option Addr) (n cap : Nat) (xs : List MG) (w : World) (hl : xs.length = n) (hn : n ≤ 400) (hA : EG.Rd w A xs) (hs : ∀ k, k ≤ n → accM [] (resL a b (xs.take k)) = resL a b (xs.take k)) :
    Calls Try.prog 26 #[.slice A n cap, .agg #[.string a, .string b]] w (RowsOf (resL a b xs) w) := by
  have HL := Lib.hid hl
  have HA := Lib.hid hA
  have HS := Lib.hid hs
  have H0 := Lib.hid (bel_alloc (alb w (rgc a b)) (.cells #[] 31))
  have z0 := Lib.hid (keep_bel (alb _ (.cells #[] 31)) (heap_alloc_new w (rgc a b)))
  clear hl hA hs
  go_enter Try.func26, Try.ntmps26
  go_wp2
  go_loopw [5, 6] (fun sv iv wr => ∃ (k : Nat) (A' : Option Addr) (c' m : Nat), k ≤ n ∧ iv = .int .i64 k ∧ sv = .slice A' m c' ∧ Hid ((resL a b (xs.take k)).length = m) ∧ Hid (EG.Rd wr A' (resL a b (xs.take k))) ∧ Below w.heap.size w wr ∧ Hid (wr.heap[w.heap.size]? = some (rgc a b))) (fun _ i _ => n - (intOf i).toNat)
  case atStart => exact ⟨0, _, 0, 0, by omega, rfl, rfl, Lib.hid rfl, Lib.hid (.inl rfl), H0.out, z0⟩
  case round =>
    obtain ⟨k, A', c', m, hk, rfl, rfl, HM, HR, hb, ZR⟩ := hrel
    have HB := Lib.hid hb
    clear hb
    by_cases h8 : k < n
    · have hk1 : (k : Int) < (n : Int) := by omega
      have hk0 : (0 : Int) ≤ (k : Int) := by omega
      obtain ⟨x, hx⟩ : ∃ x, xs[k]? = some x := ⟨_, List.getElem?_eq_getElem (by rw [HL.out]; omega)⟩
      obtain ⟨b', off, rfl, hlt, g0, g1, g2, g3, g4, g5⟩ := eg_at (HA.out.later HB.out) hx
      have HNX := Lib.hid (resL_next (a := a) (b := b) hx)
      have AC := Lib.hid (rrest_any x a b)
      have HMM : Hid (m ≤ 800) := Lib.hid (by have := resL_len a b (xs.take k); have := take_le xs k; rw [HM.out] at *; omega)
      obtain ⟨d0, d1, -, -⟩ := has_two ZR.out
      have HACC := Lib.hid (HS.out (k + 1) (by omega))
      obtain ⟨L, hL⟩ : ∃ L, restM x a b = L := ⟨_, rfl⟩
      have HQL : Hid (L.length ≤ 2) := Lib.hid (by rw [← hL]; exact rest_len x a b)
      rw [HNX.out] at HACC
      rw [hL] at HNX AC HACC
      obtain ⟨q, hq⟩ : ∃ q, L.length = q := ⟨_, rfl⟩
      have HQ := Lib.hid hq
      rw [hq] at HQL
      clear hx hlt hL
      have KS := Lib.hid (show ∀ W, Below wr.heap.size wr W → SF wr w.heap.size b' (off + k * 6) a b x W from fun W h => ⟨h, bel_later h d0, bel_later h d1, bel_later h g0, bel_later h g1, bel_later h g2, bel_later h g3, bel_later h g4, bel_later h g5⟩)
      clear d0 d1 g0 g1 g2 g3 g4 g5
      unfold RowsOf at AC
      rw [hq] at AC
      clear hq
      go_wp2_with fail
      refine wp_region_held_drew (S := (fun V : World => SF wr w.heap.size b' (off + k * 6) a b x V)) (by kernel_rfl) ?_ (fun hHeld => ?_)
      · exact KS.out _ ((Below.refl _ _).drew)
      have HHeld := Lib.hid hHeld; clear hHeld
      refine wpAnyH_take (i := 0) (oi := { dst := some 14, op := Op.move (Operand.tmp 5), type := 22, pos := "ref.go:93", after := #[], guard := none }) (v := ?_) rfl (by kernel_rfl) (by kernel_rfl) (by kernel_rfl) (fun _ _ _ h => h) (Or.inl ⟨by rfl, ?_⟩) HHeld.out ?_
      rotate_left
      · intro w hSw; clear hSw; go_simp; try with_reducible rfl
      try simp only [Act.put, List.setIfInBounds_toArray, List.set_cons_zero, List.set_cons_succ]
      refine wpAnyH_take (i := 1) (oi := { dst := some 15, op := Op.move (Operand.tmp 0), type := 22, pos := "ref.go:93", after := #[], guard := none }) (v := ?_) rfl (by kernel_rfl) (by kernel_rfl) (by kernel_rfl) (fun _ _ _ h => h) (Or.inl ⟨by rfl, ?_⟩) HHeld.out ?_
      rotate_left
      · intro w hSw; clear hSw; go_simp; try with_reducible rfl
      try simp only [Act.put, List.setIfInBounds_toArray, List.set_cons_zero, List.set_cons_succ]
      refine wpAnyH_take (i := 2) (oi := { dst := some 16, op := Op.move (Operand.tmp 6), type := 3, pos := "ref.go:93", after := #[], guard := none }) (v := ?_) rfl (by kernel_rfl) (by kernel_rfl) (by kernel_rfl) (fun _ _ _ h => h) (Or.inl ⟨by rfl, ?_⟩) HHeld.out ?_
      rotate_left
      · intro w hSw; clear hSw; go_simp; try with_reducible rfl
      try simp only [Act.put, List.setIfInBounds_toArray, List.set_cons_zero, List.set_cons_succ]
      refine wpAnyH_take (i := 3) (oi := { dst := some 17, op := Op.indexAddr 22 (Operand.tmp 15) (Operand.tmp 16), type := 0, pos := "ref.go:93", after := #[{ on := 1, ground := Ground.data }, { on := 2, ground := Ground.data }], guard := none }) (v := ?_) rfl (by kernel_rfl) (by kernel_rfl) (by kernel_rfl) (fun _ _ _ h => h) (Or.inl ⟨by rfl, ?_⟩) HHeld.out ?_
      rotate_left
      · intro w hSw; clear hSw; go_simp; try with_reducible rfl
      try simp only [Act.put, List.setIfInBounds_toArray, List.set_cons_zero, List.set_cons_succ]
      refine wpAnyH_take (i := 4) (oi := { dst := some 18, op := Op.load 31 (Operand.tmp 17), type := 31, pos := "ref.go:93", after := #[{ on := 3, ground := Ground.data }], guard := none }) (v := (.agg #[.int .u8 x.kd, .int .i64 x.sq, .string x.ky, .string x.to, .string x.vl, .int .u64 x.dl] : Value)) rfl (by kernel_rfl) (by kernel_rfl) (by kernel_rfl) (fun _ _ _ h => h) (Or.inl ⟨by rfl, ?_⟩) HHeld.out ?_
      · intro V hV; have hc0 := hV.2.2.2.1; have hc1 := hV.2.2.2.2.1; have hc2 := hV.2.2.2.2.2.1; have hc3 := hV.2.2.2.2.2.2.1; have hc4 := hV.2.2.2.2.2.2.2.1; have hc5 := hV.2.2.2.2.2.2.2.2; clear hV; go_simp
      try simp only [Act.put, List.setIfInBounds_toArray, List.set_cons_zero, List.set_cons_succ]
      refine wpAnyH_take (i := 5) (oi := { dst := some 19, op := Op.load 24 (Operand.tmp 3), type := 24, pos := "ref.go:93", after := #[], guard := none }) (v := (.agg #[.string a, .string b] : Value)) rfl (by kernel_rfl) (by kernel_rfl) (by kernel_rfl) (fun _ _ _ h => h) (Or.inl ⟨by rfl, ?_⟩) HHeld.out ?_
      · intro V hV; have hc0 := hV.2.1; have hc1 := hV.2.2.1; clear hV; go_simp
      try simp only [Act.put, List.setIfInBounds_toArray, List.set_cons_zero, List.set_cons_succ]
      refine wpAnyH_ready (rs := [6]) (by kernel_rfl) (by simp) ?_
      refine AllReadyH.cons (o := { dst := some 20, op := Op.call { callee := Callee.value (Operand.func 53), args := #[Operand.tmp 18, Operand.tmp 19], argTypes := #[31, 24] }, type := 22, pos := "ref.go:93", after := #[{ on := 4, ground := Ground.data }, { on := 5, ground := Ground.data }], guard := none }) rfl (fun K hK => ?_) AllReadyH.nil
      go_simp
      go_at_call 53; ((with_reducible refine (AC.out _).mono ?_); rintro e v5 ⟨⟨A5, q5, rfl, r5⟩, b5⟩; have B5 := Lib.hid (bel_trans HHeld.out.1 b5); have R5 := Lib.hid r5; clear b5 r5)
      refine hK.out _ _ ?_ (fun hHeld => ?_)
      · exact KS.out _ B5.out
      clear HHeld; have HHeld := Lib.hid hHeld; clear hHeld
      clear hK K
      try simp only [Act.put, List.setIfInBounds_toArray, List.set_cons_zero, List.set_cons_succ]
      refine wpAnyH_ready (rs := [7]) (by kernel_rfl) (by simp) ?_
      refine AllReadyH.cons (o := { dst := some 21, op := Op.call { callee := Callee.value (Operand.func 21), args := #[Operand.tmp 14, Operand.tmp 20], argTypes := #[22, 22] }, type := 22, pos := "ref.go:93", after := #[{ on := 0, ground := Ground.data }, { on := 6, ground := Ground.data }, { on := 6, ground := Ground.chain }], guard := none }) rfl (fun K hK => ?_) AllReadyH.nil
      have AD := Lib.hid (radd_any A' A5 m c' q q5 (resL a b (xs.take k)) L v5 HM.out HQ.out (by have := HMM.out; have := HQL.out; omega) (HR.out.later B5.out) R5.out)
      rw [HACC.out] at AD
      go_simp
      go_at_call 21; ((with_reducible refine AD.out.mono ?_); rintro e v6 ⟨⟨b6, o6, q6, rfl, r6, -, -⟩, bb6⟩; have B6 := Lib.hid (bel_trans B5.out bb6); have R6 := Lib.hid r6; clear bb6 r6)
      refine hK.out _ _ ?_ (fun hHeld => ?_)
      · exact KS.out _ B6.out
      clear HHeld; have HHeld := Lib.hid hHeld; clear hHeld
      clear hK K
      try simp only [Act.put, List.setIfInBounds_toArray, List.set_cons_zero, List.set_cons_succ]
      refine wpAnyH_take (i := 8) (oi := { dst := some 5, op := Op.assign (Operand.tmp 21), type := 22, pos := "ref.go:93", after := #[{ on := 7, ground := Ground.data }, { on := 7, ground := Ground.chain }, { on := 0, ground := Ground.phase }, { on := 1, ground := Ground.phase }, { on := 2, ground := Ground.phase }, { on := 3, ground := Ground.phase }, { on := 4, ground := Ground.phase }, { on := 5, ground := Ground.phase }, { on := 6, ground := Ground.phase }, { on := 7, ground := Ground.phase }], guard := none }) (v := ?_) rfl (by kernel_rfl) (by kernel_rfl) (by kernel_rfl) (fun _ _ _ h => h) (Or.inl ⟨by rfl, ?_⟩) HHeld.out ?_
      rotate_left
      · intro w hSw; clear hSw; go_simp; try with_reducible rfl
      try simp only [Act.put, List.setIfInBounds_toArray, List.set_cons_zero, List.set_cons_succ]
      refine wpAnyH_done (by kernel_rfl) ?_ _
      have BW := Lib.hid (bel_trans HB.out B6.out)
      have ZR2 := Lib.hid (keep_bel B6.out ZR.out)
      clear HHeld
      go_wp2
      exact ⟨⟨k + 1, _, _, _, by omega, by simp, rfl, Lib.hid (by rw [HNX.out]; simp), Lib.hid (by rw [HNX.out]; exact R6.out), BW.out, ZR2⟩, by simp [intOf]; omega⟩
    · have hk1 : ¬ (k : Int) < (n : Int) := by omega
      have e : xs.take k = xs := List.take_of_length_le (by rw [HL.out]; omega)
      rw [e] at HM HR
      have hm := HM.out
      subst hm
      go_wp2
      go_ret
      exact ⟨⟨_, _, rfl, HR.out⟩, HB.out⟩
end Go.Proofs.Ytdbnkeihnoglcaa
