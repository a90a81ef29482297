/- Texts of the proof, one behind the other. -/
import Derived.Test.YtdebedeebmmleaaGreatDoorTp01
import Derived.Test.YtdebedeebmmleaaGreatDoorTp29
import Derived.Lib.ItoaLen
import Derived.Test.YtdebedeebmmleaaGreatDoorTp05
import Derived.Lib.SlBytesRow
set_option linter.unusedVariables false
set_option linter.unusedSimpArgs false
namespace Go.Proofs.YtdebedeebmmleaaGreatDoor
open Go.RowKit Go.Maps
theorem hexB_size (n : Nat) : (hexB n).size = 1 := rfl
theorem ba_app (a b : ByteArray) : (a ++ b).data.toList = a.data.toList ++ b.data.toList := by
  rw [ByteArray.data_append, Array.toList_append]
set_option maxHeartbeats 4000000 in
set_option maxRecDepth 100000 in
theorem rtoken_any (t : ByteArray) (ht : t.size ≤ 1000000) (w : World) :
    Calls Tryz.prog 42 #[.string t] w fun e w' => e = .returned (.string (tokB t)) ∧ Below w.heap.size w w' := by
  by_cases hz : t = ⟨#[]⟩
  · subst hz
    rw [tok_nil]
    go_enter Tryz.func42, Tryz.ntmps42
    go_wp2
    go_ret
    exact ⟨rfl, Below.refl _ _⟩
  · have e1 : t.toList.isEmpty = false := ne_empty hz
    have hsz : t.size ≠ 0 := fun e => hz (ba_inj (List.eq_nil_of_length_eq_zero ((ba_len t).trans e)))
    rw [tokB_some hsz]
    have HT := Lib.hid ht
    clear ht hz hsz
    go_enter Tryz.func42, Tryz.ntmps42
    go_upto_region 5 with fail
    go_loopw [3, 4] (fun ov iv wr => ∃ (k : Nat), k ≤ t.size ∧ iv = .int .i64 k ∧ Hid (ov = .string ⟨(tokP (t.data.toList.take k)).toArray⟩) ∧ Below w.heap.size w wr) (fun _ i _ => t.size - (intOf i).toNat)
    case atStart => exact ⟨0, by omega, rfl, Lib.hid (by rw [List.take_zero]; rfl), Below.refl _ _⟩
    case round =>
      obtain ⟨k, hk, rfl, HOV, hb⟩ := hrel
      obtain ⟨O, hO⟩ : ∃ O : ByteArray, O = ⟨(tokP (t.data.toList.take k)).toArray⟩ := ⟨_, rfl⟩
      rw [← hO] at HOV
      (have hov := HOV.out; subst hov; clear HOV)
      have HB := Lib.hid hb
      clear hb
      by_cases h8 : k < t.size
      · have hk1 : (k : Int) < (t.size : Int) := by omega
        have hk0 : (0 : Int) ≤ (k : Int) := by omega
        obtain ⟨x, hx⟩ : ∃ x, t.data.toList[k]? = some x := ⟨_, List.getElem?_eq_getElem (by rw [ba_len]; exact h8)⟩
        have hx2 : t[k]'h8 = x := by
          have q := (List.getElem?_eq_some_iff.1 hx).2
          rw [← q]; rfl
        have hx3 := x.toNat_lt
        have WK : IntKind.i64.wrap ((k : Int) + 1) = (k : Int) + 1 := IntWalk.i64_in _ (by have := HT.out; omega)
        obtain ⟨p, hp⟩ : ∃ p, x.toNat / 16 = p := ⟨_, rfl⟩
        obtain ⟨q, hq⟩ : ∃ q, x.toNat % 16 = q := ⟨_, rfl⟩
        have hp16 : p < 16 := by omega
        have hq16 : q < 16 := by omega
        have HT1 := Lib.hid (show tokP (t.data.toList.take (k + 1)) = (tokP (t.data.toList.take k) ++ [hexd p]) ++ [hexd q] by rw [List.take_add_one, hx, tokP_app, ← hp, ← hq]; simp [tokP_one])
        have ed : (x.toNat : Int).tdiv 16 = (p : Int) := by rw [Int.tdiv_eq_ediv_of_nonneg (by omega)]; omega
        have em : (x.toNat : Int).tmod 16 = (q : Int) := by rw [Int.tmod_eq_emod_of_nonneg (by omega)]; omega
        have wp8 : IntKind.u8.wrap (p : Int) = (p : Int) := by show (p : Int) % 256 = p; omega
        have wq8 : IntKind.u8.wrap (q : Int) = (q : Int) := by show (q : Int) % 256 = q; omega
        have wpm : (p : Int) % 256 = p := by omega
        have wqm : (q : Int) % 256 = q := by omega
        have HF : Hid ((O ++ hexB p) ++ hexB q = ⟨(tokP (t.data.toList.take (k + 1))).toArray⟩) := Lib.hid (ba_inj (by rw [ba_app, ba_app, ba_list, HT1.out, hO, ba_list]; rfl))
        have HPX := Lib.hid (hex_any p hp16)
        have HQX := Lib.hid (hex_any q hq16)
        have HS1 : Hid (O.size + (hexB p).size ≤ 3000000) := Lib.hid (by rw [hexB_size, hO, ba_size, tokP_len, List.length_take]; have := HT.out; omega)
        have HS2 : Hid (O.size + (hexB p).size + (hexB q).size ≤ 3000000) := Lib.hid (by rw [hexB_size, hexB_size, hO, ba_size, tokP_len, List.length_take]; have := HT.out; omega)
        generalize hexB p = P at HPX HF HS1 HS2
        generalize hexB q = Q at HQX HF HS2
        clear hx hp hq hO HT1
        go_upto_region 7 with fail
        refine wp_region_held_drew (S := (fun _ : World => True)) (by kernel_rfl) ?_ (fun hHeld => ?_)
        · trivial
        have HHeld := Lib.hid hHeld; clear hHeld
        refine wT (i := 0) (oi := { dst := some 13, op := Op.move (Operand.tmp 3), type := 9, pos := "ref.go:20", after := #[], guard := none }) (v := ?_) rfl (Or.inl ⟨by rfl, ?_⟩) HHeld.out ?_
        rotate_left
        · intro w hSw; clear hSw; go_simp; try with_reducible rfl
        try simp only [pu, pn, s1, s2, s3]
        refine wT (i := 1) (oi := { dst := some 14, op := Op.move (Operand.tmp 0), type := 9, pos := "ref.go:20", after := #[], guard := none }) (v := ?_) rfl (Or.inl ⟨by rfl, ?_⟩) HHeld.out ?_
        rotate_left
        · intro w hSw; clear hSw; go_simp; try with_reducible rfl
        try simp only [pu, pn, s1, s2, s3]
        refine wT (i := 2) (oi := { dst := some 15, op := Op.move (Operand.tmp 4), type := 3, pos := "ref.go:20", after := #[], guard := none }) (v := ?_) rfl (Or.inl ⟨by rfl, ?_⟩) HHeld.out ?_
        rotate_left
        · intro w hSw; clear hSw; go_simp; try with_reducible rfl
        try simp only [pu, pn, s1, s2, s3]
        refine wT (i := 3) (oi := { dst := some 16, op := Op.index 9 (Operand.tmp 14) (Operand.tmp 15), type := 5, pos := "ref.go:20", after := #[{ on := 1, ground := Ground.data }, { on := 2, ground := Ground.data }], guard := none }) (v := (.int .u8 (x.toNat : Int) : Value)) rfl (Or.inl ⟨by rfl, ?_⟩) HHeld.out ?_
        · intro V hV; have hc0 := hx2; clear hV; go_simp
        try simp only [pu, pn, s1, s2, s3]
        refine wT (i := 4) (oi := { dst := some 17, op := Op.binOp BinOp.quo 5 (Operand.tmp 16) (Operand.const (Value.int IntKind.u8 16)) 5, type := 5, pos := "ref.go:20", after := #[{ on := 3, ground := Ground.data }], guard := none }) (v := (.int .u8 (p : Int) : Value)) rfl (Or.inl ⟨by rfl, ?_⟩) HHeld.out ?_
        · intro V hV; have hc0 := ed; clear hV; go_simp
        try simp only [pu, pn, s1, s2, s3]
        refine wT (i := 7) (oi := { dst := some 20, op := Op.move (Operand.tmp 0), type := 9, pos := "ref.go:20", after := #[], guard := none }) (v := ?_) rfl (Or.inl ⟨by rfl, ?_⟩) HHeld.out ?_
        rotate_left
        · intro w hSw; clear hSw; go_simp; try with_reducible rfl
        try simp only [pu, pn, s1, s2, s3]
        refine wT (i := 8) (oi := { dst := some 21, op := Op.move (Operand.tmp 4), type := 3, pos := "ref.go:20", after := #[], guard := none }) (v := ?_) rfl (Or.inl ⟨by rfl, ?_⟩) HHeld.out ?_
        rotate_left
        · intro w hSw; clear hSw; go_simp; try with_reducible rfl
        try simp only [pu, pn, s1, s2, s3]
        refine wT (i := 9) (oi := { dst := some 22, op := Op.index 9 (Operand.tmp 20) (Operand.tmp 21), type := 5, pos := "ref.go:20", after := #[{ on := 7, ground := Ground.data }, { on := 8, ground := Ground.data }], guard := none }) (v := (.int .u8 (x.toNat : Int) : Value)) rfl (Or.inl ⟨by rfl, ?_⟩) HHeld.out ?_
        · intro V hV; have hc0 := hx2; clear hV; go_simp
        try simp only [pu, pn, s1, s2, s3]
        refine wT (i := 10) (oi := { dst := some 23, op := Op.binOp BinOp.rem 5 (Operand.tmp 22) (Operand.const (Value.int IntKind.u8 16)) 5, type := 5, pos := "ref.go:20", after := #[{ on := 9, ground := Ground.data }], guard := none }) (v := (.int .u8 (q : Int) : Value)) rfl (Or.inl ⟨by rfl, ?_⟩) HHeld.out ?_
        · intro V hV; have hc0 := em; clear hV; go_simp
        try simp only [pu, pn, s1, s2, s3]
        refine wpAnyH_ready (rs := [5]) (by kernel_rfl) (by simp) ?_
        refine AllReadyH.cons (o := { dst := some 18, op := Op.call { callee := Callee.value (Operand.func 69), args := #[Operand.tmp 17], argTypes := #[5] }, type := 9, pos := "ref.go:20", after := #[{ on := 4, ground := Ground.data }], guard := none }) rfl (fun K hK => ?_) AllReadyH.nil
        go_simp
        go_at_call 69; ((refine (HPX.out _).mono ?_); rintro e w1 ⟨rfl, rfl⟩)
        refine hK.out _ _ ?_ (fun hHeld => ?_)
        · trivial
        clear HHeld; have HHeld := Lib.hid hHeld; clear hHeld
        clear hK K
        try simp only [pu, pn, s1, s2, s3]
        refine wT (i := 6) (oi := { dst := some 19, op := Op.binOp BinOp.add 9 (Operand.tmp 13) (Operand.tmp 18) 9, type := 9, pos := "ref.go:20", after := #[{ on := 0, ground := Ground.data }, { on := 5, ground := Ground.data }], guard := none }) (v := (.string (O ++ P) : Value)) rfl (Or.inl ⟨by rfl, ?_⟩) HHeld.out ?_
        · intro V hV; clear hV; have hs := HS1.out; go_simp; omega
        try simp only [pu, pn, s1, s2, s3]
        refine wpAnyH_ready (rs := [11]) (by kernel_rfl) (by simp) ?_
        refine AllReadyH.cons (o := { dst := some 24, op := Op.call { callee := Callee.value (Operand.func 69), args := #[Operand.tmp 23], argTypes := #[5] }, type := 9, pos := "ref.go:20", after := #[{ on := 10, ground := Ground.data }, { on := 5, ground := Ground.chain }], guard := none }) rfl (fun K hK => ?_) AllReadyH.nil
        go_simp
        go_at_call 69; ((refine (HQX.out _).mono ?_); rintro e w1 ⟨rfl, rfl⟩)
        refine hK.out _ _ ?_ (fun hHeld => ?_)
        · trivial
        clear HHeld; have HHeld := Lib.hid hHeld; clear hHeld
        clear hK K
        try simp only [pu, pn, s1, s2, s3]
        refine wT (i := 12) (oi := { dst := some 25, op := Op.binOp BinOp.add 9 (Operand.tmp 19) (Operand.tmp 24) 9, type := 9, pos := "ref.go:20", after := #[{ on := 6, ground := Ground.data }, { on := 11, ground := Ground.data }], guard := none }) (v := (.string ((O ++ P) ++ Q) : Value)) rfl (Or.inl ⟨by rfl, ?_⟩) HHeld.out ?_
        · intro V hV; clear hV; have hs := HS2.out; go_simp; omega
        try simp only [pu, pn, s1, s2, s3]
        refine wT (i := 13) (oi := { dst := some 3, op := Op.assign (Operand.tmp 25), type := 9, pos := "ref.go:20", after := #[{ on := 12, ground := Ground.data }, { on := 11, ground := Ground.chain }, { on := 0, ground := Ground.phase }, { on := 1, ground := Ground.phase }, { on := 2, ground := Ground.phase }, { on := 3, ground := Ground.phase }, { on := 4, ground := Ground.phase }, { on := 5, ground := Ground.phase }, { on := 6, ground := Ground.phase }, { on := 7, ground := Ground.phase }, { on := 8, ground := Ground.phase }, { on := 9, ground := Ground.phase }, { on := 10, ground := Ground.phase }, { on := 11, ground := Ground.phase }, { on := 12, ground := Ground.phase }], guard := none }) (v := ?_) rfl (Or.inl ⟨by rfl, ?_⟩) HHeld.out ?_
        rotate_left
        · intro w hSw; clear hSw; go_simp; try with_reducible rfl
        try simp only [pu, pn, s1, s2, s3]
        refine wpAnyH_done (by kernel_rfl) ?_ _
        clear HHeld
        go_wp2
        exact ⟨⟨k + 1, by omega, by simp, Lib.hid (by rw [← HF.out]), HB.out.drew⟩, by simp [intOf]; omega⟩
      · have hk1 : ¬ (k : Int) < (t.size : Int) := by omega
        have hke : k = t.size := by omega
        subst hke
        have e2 : t.data.toList.take t.size = t.data.toList := List.take_of_length_le (by rw [ba_len]; omega)
        rw [e2] at hO
        subst hO
        clear e2
        go_wp2
        refine bodyPost_ret (v := .string ⟨(tokP t.data.toList).toArray⟩) (by simp [results, Tryz.results42, go_sem]) rfl ⟨rfl, HB.out⟩
end Go.Proofs.YtdebedeebmmleaaGreatDoor
namespace Go.Proofs.YtdebedeebmmleaaGreatDoor
open Go.RowKit Go.Maps
theorem hexd_dig : ∀ n, n < 10 → UInt8.ofNat (48 + n) = hexd n := by decide +kernel
theorem utoa_lo {u : Nat} (h : u < 10) : utoaB u = hexB u := by
  unfold utoaB hexB
  rw [Lib.decDigits, dif_pos h, hexd_dig u h]
theorem utoa_hi {u : Nat} (h : ¬ u < 10) : utoaB u = utoaB (u / 10) ++ hexB (u % 10) := by
  refine ba_inj ?_
  rw [ba_app]
  unfold utoaB hexB
  rw [ba_list, ba_list, Lib.decDigits, dif_neg h, hexd_dig _ (by omega)]
theorem utoa_size (u : Nat) (h : u ≤ 18446744073709551615) : (utoaB u).size ≤ 20 := by
  unfold utoaB
  rw [ba_size, Lib.decDigits_length]
  exact Lib.nDigits_le20 u (by omega)
set_option maxHeartbeats 1000000 in
set_option maxRecDepth 100000 in
theorem digits_any (u : Nat) : ∀ (hu : u ≤ 18446744073709551615) (w : World), Calls Tryz.prog 41 #[.int .u64 (u : Int)] w fun e w' => e = .returned (.string (utoaB u)) ∧ w' = w := by
  induction u using Nat.strongRecOn with
  | _ u ih =>
    intro hu w
    by_cases h : u < 10
    · have HX := Lib.hid (hex_any u (by omega))
      rw [utoa_lo h]
      have k0 : (u : Int) < 10 := by omega
      have wu8 : IntKind.u8.wrap (u : Int) = (u : Int) := by show (u : Int) % 256 = u; omega
      have wum : (u : Int) % 256 = u := by omega
      clear ih
      go_enter Tryz.func41, Tryz.ntmps41
      go_wp2_with (first
        | (go_at_call 69; ((with_reducible refine (HX.out _).mono ?_); rintro e w1 ⟨rfl, rfl⟩))
        | fail)
      go_ret
      exact ⟨rfl, rfl⟩
    · have HI := Lib.hid (ih (u / 10) (by omega) (by omega))
      have HSZ := Lib.hid (utoa_size (u / 10) (by omega))
      rw [utoa_hi h]
      have k0 : ¬ (u : Int) < 10 := by omega
      obtain ⟨p, hp⟩ : ∃ p, u / 10 = p := ⟨_, rfl⟩
      obtain ⟨q, hq⟩ : ∃ q, u % 10 = q := ⟨_, rfl⟩
      rw [hp] at HI HSZ
      rw [hp, hq]
      have HX := Lib.hid (hex_any q (by omega))
      have ed : (u : Int).tdiv 10 = (p : Int) := by rw [Int.tdiv_eq_ediv_of_nonneg (by omega)]; omega
      have em : (u : Int).tmod 10 = (q : Int) := by rw [Int.tmod_eq_emod_of_nonneg (by omega)]; omega
      have wp6 : IntKind.u64.wrap (p : Int) = (p : Int) := by show (p : Int) % 18446744073709551616 = p; omega
      have wpm : (p : Int) % 18446744073709551616 = p := by omega
      have wq6 : IntKind.u64.wrap (q : Int) = (q : Int) := by show (q : Int) % 18446744073709551616 = q; omega
      have wqn : (q : Int) % 18446744073709551616 = q := by omega
      have wq8 : IntKind.u8.wrap (q : Int) = (q : Int) := by show (q : Int) % 256 = q; omega
      have wqm : (q : Int) % 256 = q := by omega
      have HS1 : Hid ((utoaB p).size + (hexB q).size ≤ 100) := Lib.hid (by rw [hexB_size]; have := HSZ.out; omega)
      generalize utoaB p = P at HI HS1 ⊢
      generalize hexB q = Q at HX HS1 ⊢
      have hcat : ¬ 9223372036854775807 < P.size + Q.size := by have := HS1.out; omega
      clear ih hp hq
      go_enter Tryz.func41, Tryz.ntmps41
      go_wp2_with (first
        | (go_at_call 41; ((with_reducible refine (HI.out _).mono ?_); rintro e w1 ⟨rfl, rfl⟩))
        | (go_at_call 69; ((with_reducible refine (HX.out _).mono ?_); rintro e w1 ⟨rfl, rfl⟩))
        | fail)
      all_goals
        first
        | (exfalso; have := HS1.out; omega)
        | (go_ret; exact ⟨rfl, rfl⟩)
def numT (n : Int) : Value := if inR n = true then .tuple #[.string (itoaB n), .bool true] else .tuple #[.string ⟨#[]⟩, .bool false]
set_option maxHeartbeats 1000000 in
set_option maxRecDepth 100000 in
theorem rnum_any (n : Int) (h0 : -9223372036854775808 ≤ n) (h1 : n ≤ 9223372036854775807) (w : World) : Calls Tryz.prog 25 #[.int .i64 n] w fun e w' => e = .returned (numT n) ∧ w' = w := by
  unfold numT
  by_cases hr : inR n = true
  · rw [if_pos hr]
    unfold inR at hr
    simp only [Bool.and_eq_true, decide_eq_true_eq] at hr
    obtain ⟨r0, r1⟩ := hr
    have k0 : ¬ n < -2147483647 := by omega
    have k1 : ¬ (2147483647 : Int) < n := by omega
    by_cases hneg : n < 0
    · obtain ⟨u, rfl⟩ : ∃ u : Nat, n = -(u : Int) := ⟨n.natAbs, by omega⟩
      have e : itoaB (-(u : Int)) = ⟨#[45]⟩ ++ utoaB u := by
        refine ba_inj ?_
        rw [ba_app]
        unfold itoaB utoaB
        rw [ba_list, ba_list, Lib.itoa_neg u (by omega)]
        rfl
      rw [e]
      have HD := Lib.hid (digits_any u (by omega))
      have HSZ := Lib.hid (utoa_size u (by omega))
      have w1 : IntKind.i64.wrap (u : Int) = (u : Int) := IntWalk.i64_in _ (by omega)
      have w2 : IntKind.u64.wrap (u : Int) = (u : Int) := by show (u : Int) % 18446744073709551616 = u; omega
      have w3 : (u : Int) % 18446744073709551616 = u := by omega
      generalize utoaB u = U at HD HSZ ⊢
      have hcat : ¬ 9223372036854775807 < 1 + U.size := by have := HSZ.out; omega
      clear e h0 h1
      go_enter Tryz.func25, Tryz.ntmps25
      go_wp2_with (first
        | (go_at_call 41; ((with_reducible refine (HD.out _).mono ?_); rintro e w1 ⟨rfl, rfl⟩))
        | fail)
      all_goals
        first
        | (exfalso; have := HSZ.out; omega)
        | (refine bodyPost_ret (v := .tuple #[.string (⟨#[45]⟩ ++ U), .bool true]) (by simp [results, Tryz.results25, go_sem]) rfl ⟨rfl, rfl⟩)
    · obtain ⟨u, rfl⟩ : ∃ u : Nat, n = (u : Int) := ⟨n.toNat, by omega⟩
      have e : itoaB (u : Int) = utoaB u := by
        unfold itoaB utoaB
        rw [Lib.itoa_nonneg]
      rw [e]
      have HD := Lib.hid (digits_any u (by omega))
      have w2 : IntKind.u64.wrap (u : Int) = (u : Int) := by show (u : Int) % 18446744073709551616 = u; omega
      have w3 : (u : Int) % 18446744073709551616 = u := by omega
      generalize utoaB u = U at HD ⊢
      clear e h0 h1
      go_enter Tryz.func25, Tryz.ntmps25
      go_wp2_with (first
        | (go_at_call 41; ((with_reducible refine (HD.out _).mono ?_); rintro e w1 ⟨rfl, rfl⟩))
        | fail)
      refine bodyPost_ret (v := .tuple #[.string U, .bool true]) (by simp [results, Tryz.results25, go_sem]) rfl ⟨rfl, rfl⟩
  · rw [if_neg hr]
    have hq : n < -2147483647 ∨ 2147483647 < n := by
      unfold inR at hr
      simp only [Bool.and_eq_true, decide_eq_true_eq] at hr
      omega
    clear hr
    by_cases k0 : n < -2147483647
    · go_enter Tryz.func25, Tryz.ntmps25
      go_wp2
      refine bodyPost_ret (v := .tuple #[.string ⟨#[]⟩, .bool false]) (by simp [results, Tryz.results25, go_sem]) rfl ⟨rfl, rfl⟩
    · have k1 : (2147483647 : Int) < n := by omega
      clear hq
      go_enter Tryz.func25, Tryz.ntmps25
      go_wp2
      refine bodyPost_ret (v := .tuple #[.string ⟨#[]⟩, .bool false]) (by simp [results, Tryz.results25, go_sem]) rfl ⟨rfl, rfl⟩
end Go.Proofs.YtdebedeebmmleaaGreatDoor
namespace Go.Proofs.YtdebedeebmmleaaGreatDoor
open Go.RowKit Go.Maps
def dc (d : Nat) : UInt8 := UInt8.ofNat (48 + d)
theorem dc_hex {d : Nat} (h : d < 10) : (⟨#[dc d]⟩ : ByteArray) = hexB d := by unfold dc hexB; rw [hexd_dig d h]
theorem conv_one (d : Nat) (hd : d < 10) (g : Nat) (W : World) (z : W.heap[g]? = some (.cells #[.int .u8 (48 + (d : Int))] 5)) : (convert 47 9 (.slice (some ⟨g, 0, none⟩) 1 1)).run Tryz.prog W = .ok (.string ⟨#[dc d]⟩) W := by
  refine Lib.run_convert_whole (P := Tryz.prog) W 47 5 9 Tryz.underlying47 Tryz.underlying5 Tryz.underlying9 g 0 ⟨#[dc d]⟩ ?_ 1
  intro j hj
  have e : (⟨#[dc d]⟩ : ByteArray).size = 1 := rfl
  obtain rfl : j = 0 := by omega
  have h : W.cell? ⟨g, 0, none⟩ = some (.int .u8 (48 + (d : Int))) := cellh z rfl
  have e2 : (dc d).toNat = 48 + d := by unfold dc; rw [UInt8.toNat_ofNat']; omega
  show W.cell? ⟨g, 0 + 0, none⟩ = some (.int .u8 ((dc d).toNat : Int))
  rw [e2]
  simpa using h
set_option maxRecDepth 100000 in
set_option maxHeartbeats 2000000 in
theorem tag_small (u : Nat) (h : u < 10) (w : World) :
    Calls Tryz.prog 70 #[.int .i64 u] w fun e w' => e = .returned (.tuple #[.string (utoaB u), .bool true]) ∧ Below w.heap.size w w' := by
  have h1 : (u : Int) < 10 := by omega
  have h01 : ¬ (u : Int) < 0 := by omega
  have h02 : ¬ (u : Int) < -1099511627776 := by omega
  have h03 : ¬ (1099511627776 : Int) < (u : Int) := by omega
  have h2 : IntKind.i64.wrap (48 + (u : Int)) = 48 + u := IntWalk.i64_in _ (by omega)
  have h3 : IntKind.u8.wrap (48 + (u : Int)) = 48 + u := by rw [IntKind.wrap_u8]; omega
  have RL := Lib.hid (alb w (.cells #[.int .u8 (48 + u)] 5))
  have z := heap_alloc_new w (.cells #[.int .u8 (48 + u)] 5)
  have cv := conv_one u h _ _ z
  have HE : Hid (utoaB u = ⟨#[dc u]⟩) := Lib.hid (by rw [utoa_lo h, dc_hex h])
  clear h z
  go_enter Tryz.func70, Tryz.ntmps70
  go_wp2
  refine bodyPost_ret (v := .tuple #[.string ⟨#[dc u]⟩, .bool true]) (by simp [results, Tryz.results70, go_sem]) rfl ⟨by rw [HE.out], RL.out⟩
set_option maxRecDepth 100000 in
set_option maxHeartbeats 2000000 in
theorem tag_step (u : Nat) (h : ¬ u < 10) (hu : u ≤ 1099511627776) (w : World)
    (IH : ∀ W, Calls Tryz.prog 70 #[.int .i64 ((u / 10 : Nat) : Int)] W fun e w' => e = .returned (.tuple #[.string (utoaB (u / 10)), .bool true]) ∧ Below W.heap.size W w') :
    Calls Tryz.prog 70 #[.int .i64 u] w fun e w' => e = .returned (.tuple #[.string (utoaB u), .bool true]) ∧ Below w.heap.size w w' := by
  have HI := Lib.hid IH
  obtain ⟨q, hq⟩ : ∃ q, u / 10 = q := ⟨_, rfl⟩
  obtain ⟨r, hr⟩ : ∃ r, u % 10 = r := ⟨_, rfl⟩
  have h1 : ¬ (u : Int) < 10 := by omega
  have h01 : ¬ (u : Int) < 0 := by omega
  have h02 : ¬ (u : Int) < -1099511627776 := by omega
  have h03 : ¬ (1099511627776 : Int) < (u : Int) := by omega
  have t1 : Int.tdiv (u : Int) 10 = (q : Int) := by rw [Int.tdiv_eq_ediv_of_nonneg (by omega)]; omega
  have t2 : Int.tmod (u : Int) 10 = (r : Int) := by rw [Int.tmod_eq_emod_of_nonneg (by omega)]; omega
  have hr9 : r < 10 := by omega
  have h0 : IntKind.i64.wrap (q : Int) = q := IntWalk.i64_in _ (by omega)
  have h00 : IntKind.i64.wrap (r : Int) = r := IntWalk.i64_in _ (by omega)
  have h2 : IntKind.i64.wrap (48 + (r : Int)) = 48 + r := IntWalk.i64_in _ (by omega)
  have h3 : IntKind.u8.wrap (48 + (r : Int)) = 48 + r := by rw [IntKind.wrap_u8]; omega
  have HE : Hid (utoaB u = utoaB q ++ ⟨#[dc r]⟩) := Lib.hid (by rw [utoa_hi h, hq, hr, dc_hex hr9])
  have HSZ : Hid ((utoaB q).size ≤ 20) := Lib.hid (utoa_size q (by omega))
  have HR9 := Lib.hid hr9
  rw [hq] at HI
  clear h hq hr hu IH hr9
  obtain ⟨P, hP⟩ : ∃ P, P = utoaB q := ⟨_, rfl⟩
  rw [← hP] at HI HE HSZ
  have hlim : ¬ 9223372036854775807 < P.size + 1 := by have := HSZ.out; omega
  clear hP
  go_enter Tryz.func70, Tryz.ntmps70
  go_upto_region 9 with (first
    | (go_at_call 70; ((with_reducible refine (HI.out _).mono ?_); rintro e w1 ⟨rfl, b1⟩; have B1 := Lib.hid b1; clear b1))
    | fail)
  have cv := conv_one r HR9.out _ _ (heap_alloc_new w1 (.cells #[.int .u8 (48 + (r : Int))] 5))
  have B2 := Lib.hid (bel_alloc B1.out (.cells #[.int .u8 (48 + (r : Int))] 5))
  go_wp2
  refine bodyPost_ret (v := .tuple #[.string (P ++ ⟨#[dc r]⟩), .bool true]) (by simp [results, Tryz.results70, go_sem]) rfl ⟨by rw [HE.out], B2.out⟩
theorem tag_nat (u : Nat) : ∀ (hu : u ≤ 1099511627776) (w : World), Calls Tryz.prog 70 #[.int .i64 u] w fun e w' => e = .returned (.tuple #[.string (utoaB u), .bool true]) ∧ Below w.heap.size w w' := by
  induction u using Nat.strongRecOn with
  | _ u ih =>
    intro hu w
    by_cases h : u < 10
    · exact tag_small u h w
    · exact tag_step u h hu w (fun W => ih (u / 10) (by omega) (by omega) W)
def inT (q : Int) : Bool := decide (-1099511627776 ≤ q) && decide (q ≤ 1099511627776)
def tagT (q : Int) : Value := if inT q = true then .tuple #[.string (itoaB q), .bool true] else .tuple #[.string ⟨#[]⟩, .bool false]
set_option maxRecDepth 100000 in
set_option maxHeartbeats 2000000 in
theorem tag_any (q : Int) (w : World) : Calls Tryz.prog 70 #[.int .i64 q] w fun e w' => e = .returned (tagT q) ∧ Below w.heap.size w w' := by
  unfold tagT inT
  by_cases h1 : -1099511627776 ≤ q
  · by_cases h2 : q ≤ 1099511627776
    · rw [if_pos (by simp [h1, h2])]
      by_cases h3 : q < 0
      · obtain ⟨u, rfl⟩ : ∃ u : Nat, q = -(u : Int) := ⟨q.natAbs, by omega⟩
        have e : itoaB (-(u : Int)) = ⟨#[45]⟩ ++ utoaB u := by
          refine ba_inj ?_
          rw [ba_app]
          unfold itoaB utoaB
          rw [ba_list, ba_list, Lib.itoa_neg u (by omega)]
          rfl
        rw [e]
        have HD := Lib.hid (tag_nat u (by omega))
        have HSZ := Lib.hid (utoa_size u (by omega))
        have w1 : IntKind.i64.wrap (u : Int) = (u : Int) := IntWalk.i64_in _ (by omega)
        obtain ⟨U, hU⟩ : ∃ U, U = utoaB u := ⟨_, rfl⟩
        rw [← hU] at HD HSZ ⊢
        have hcat : ¬ 9223372036854775807 < 1 + U.size := by have := HSZ.out; omega
        clear e hU
        go_enter Tryz.func70, Tryz.ntmps70
        go_wp2_with (first
          | (go_at_call 70; ((with_reducible refine (HD.out _).mono ?_); rintro e w1 ⟨rfl, b1⟩; have B1 := Lib.hid b1; clear b1))
          | fail)
        all_goals
          first
          | (exfalso; have := HSZ.out; omega)
          | (refine bodyPost_ret (v := .tuple #[.string (⟨#[45]⟩ ++ U), .bool true]) (by simp [results, Tryz.results70, go_sem]) rfl ⟨rfl, B1.out⟩)
      · obtain ⟨u, rfl⟩ : ∃ u : Nat, q = (u : Int) := ⟨q.toNat, by omega⟩
        have e : itoaB (u : Int) = utoaB u := by
          unfold itoaB utoaB
          rw [Lib.itoa_nonneg]
        rw [e]
        exact tag_nat u (by omega) w
    · rw [if_neg (by simp [h2])]
      have k2 : (1099511627776 : Int) < q := by omega
      have k1 : ¬ q < -1099511627776 := by omega
      go_enter Tryz.func70, Tryz.ntmps70
      go_wp2
      refine bodyPost_ret (v := .tuple #[.string ⟨#[]⟩, .bool false]) (by simp [results, Tryz.results70, go_sem]) rfl ⟨rfl, Below.refl _ _⟩
  · rw [if_neg (by simp [h1])]
    have k1 : q < -1099511627776 := by omega
    go_enter Tryz.func70, Tryz.ntmps70
    go_wp2
    refine bodyPost_ret (v := .tuple #[.string ⟨#[]⟩, .bool false]) (by simp [results, Tryz.results70, go_sem]) rfl ⟨rfl, Below.refl _ _⟩
set_option maxRecDepth 100000 in
set_option maxHeartbeats 2000000 in
theorem delta_small (u : Nat) (h : u < 10) (w : World) :
    Calls Tryz.prog 72 #[.int .u64 u] w fun e w' => e = .returned (.string (utoaB u)) ∧ Below w.heap.size w w' := by
  have h1 : (u : Int) < 10 := by omega
  have h2 : IntKind.u64.wrap (48 + (u : Int)) = 48 + u := by show (48 + (u : Int)) % 18446744073709551616 = _; omega
  have h22 : (48 + (u : Int)) % 18446744073709551616 = 48 + u := by omega
  have h3 : IntKind.u8.wrap (48 + (u : Int)) = 48 + u := by rw [IntKind.wrap_u8]; omega
  have h33 : (48 + (u : Int)) % 256 = 48 + u := by omega
  have RL := Lib.hid (alb w (.cells #[.int .u8 (48 + u)] 5))
  have z := heap_alloc_new w (.cells #[.int .u8 (48 + u)] 5)
  have cv := conv_one u h _ _ z
  have HE : Hid (utoaB u = ⟨#[dc u]⟩) := Lib.hid (by rw [utoa_lo h, dc_hex h])
  clear h z
  go_enter Tryz.func72, Tryz.ntmps72
  go_wp2
  go_ret
  exact ⟨by rw [HE.out]; try rfl, RL.out⟩
set_option maxRecDepth 100000 in
set_option maxHeartbeats 4000000 in
theorem delta_step (u : Nat) (h : ¬ u < 10) (hu : u ≤ 18446744073709551615) (w : World)
    (IH : ∀ W, Calls Tryz.prog 72 #[.int .u64 ((u / 10 : Nat) : Int)] W fun e w' => e = .returned (.string (utoaB (u / 10))) ∧ Below W.heap.size W w') :
    Calls Tryz.prog 72 #[.int .u64 u] w fun e w' => e = .returned (.string (utoaB u)) ∧ Below w.heap.size w w' := by
  have HI := Lib.hid IH
  obtain ⟨q, hq⟩ : ∃ q, u / 10 = q := ⟨_, rfl⟩
  obtain ⟨r, hr⟩ : ∃ r, u % 10 = r := ⟨_, rfl⟩
  have h1 : ¬ (u : Int) < 10 := by omega
  have t1 : Int.tdiv (u : Int) 10 = (q : Int) := by rw [Int.tdiv_eq_ediv_of_nonneg (by omega)]; omega
  have t2 : Int.tmod (u : Int) 10 = (r : Int) := by rw [Int.tmod_eq_emod_of_nonneg (by omega)]; omega
  have hr9 : r < 10 := by omega
  have h0 : IntKind.u64.wrap (q : Int) = q := by show (q : Int) % 18446744073709551616 = _; omega
  have h000 : (q : Int) % 18446744073709551616 = q := by omega
  have h00 : IntKind.u64.wrap (r : Int) = r := by show (r : Int) % 18446744073709551616 = _; omega
  have h001 : (r : Int) % 18446744073709551616 = r := by omega
  have h2 : IntKind.u64.wrap (48 + (r : Int)) = 48 + r := by show (48 + (r : Int)) % 18446744073709551616 = _; omega
  have h22 : (48 + (r : Int)) % 18446744073709551616 = 48 + r := by omega
  have h3 : IntKind.u8.wrap (48 + (r : Int)) = 48 + r := by rw [IntKind.wrap_u8]; omega
  have h33 : (48 + (r : Int)) % 256 = 48 + r := by omega
  have HE : Hid (utoaB u = utoaB q ++ ⟨#[dc r]⟩) := Lib.hid (by rw [utoa_hi h, hq, hr, dc_hex hr9])
  have HSZ : Hid ((utoaB q).size ≤ 20) := Lib.hid (utoa_size q (by omega))
  have HR9 := Lib.hid hr9
  rw [hq] at HI
  clear h hq hr hu IH hr9
  obtain ⟨P, hP⟩ : ∃ P, P = utoaB q := ⟨_, rfl⟩
  rw [← hP] at HI HE HSZ
  have hlim : ¬ 9223372036854775807 < P.size + 1 := by have := HSZ.out; omega
  clear hP
  go_enter Tryz.func72, Tryz.ntmps72
  go_upto_region 3 with fail
  refine wp_region_held_drew (S := fun _ : World => True) (by kernel_rfl) trivial (fun hHeld => ?_)
  clear hHeld
  refine wT (i := 0) (oi := { dst := some 10, op := Op.move (Operand.tmp 0), type := 71, pos := "ref.go:31", after := #[], guard := none }) (v := ?_) rfl (Or.inl ⟨by rfl, ?_⟩) trivial ?_
  rotate_left
  · intro w hSw; clear hSw; go_simp; try with_reducible rfl
  try simp only [pu, pn, s1, s2, s3]
  refine wT (i := 1) (oi := { dst := some 11, op := Op.binOp BinOp.quo 71 (Operand.tmp 10) (Operand.const (Value.int IntKind.u64 10)) 71, type := 71, pos := "ref.go:31", after := #[{ on := 0, ground := Ground.data }], guard := none }) (v := ?_) rfl (Or.inl ⟨by rfl, ?_⟩) trivial ?_
  rotate_left
  · intro w hSw; clear hSw; go_simp; try with_reducible rfl
  try simp only [pu, pn, s1, s2, s3]
  refine wT (i := 3) (oi := { dst := some 13, op := Op.move (Operand.tmp 0), type := 71, pos := "ref.go:31", after := #[], guard := none }) (v := ?_) rfl (Or.inl ⟨by rfl, ?_⟩) trivial ?_
  rotate_left
  · intro w hSw; clear hSw; go_simp; try with_reducible rfl
  try simp only [pu, pn, s1, s2, s3]
  refine wT (i := 4) (oi := { dst := some 14, op := Op.binOp BinOp.rem 71 (Operand.tmp 13) (Operand.const (Value.int IntKind.u64 10)) 71, type := 71, pos := "ref.go:31", after := #[{ on := 3, ground := Ground.data }], guard := none }) (v := ?_) rfl (Or.inl ⟨by rfl, ?_⟩) trivial ?_
  rotate_left
  · intro w hSw; clear hSw; go_simp; try with_reducible rfl
  try simp only [pu, pn, s1, s2, s3]
  refine wT (i := 5) (oi := { dst := some 15, op := Op.binOp BinOp.add 71 (Operand.const (Value.int IntKind.u64 48)) (Operand.tmp 14) 71, type := 71, pos := "ref.go:31", after := #[{ on := 4, ground := Ground.data }], guard := none }) (v := ?_) rfl (Or.inl ⟨by rfl, ?_⟩) trivial ?_
  rotate_left
  · intro w hSw; clear hSw; go_simp; try with_reducible rfl
  try simp only [pu, pn, s1, s2, s3]
  refine wT (i := 6) (oi := { dst := some 16, op := Op.convert 71 5 (Operand.tmp 15), type := 5, pos := "ref.go:31", after := #[{ on := 5, ground := Ground.data }], guard := none }) (v := ?_) rfl (Or.inl ⟨by rfl, ?_⟩) trivial ?_
  rotate_left
  · intro w hSw; clear hSw; go_simp; try with_reducible rfl
  try simp only [pu, pn, s1, s2, s3]
  refine wpAnyH_ready (rs := [2, 7]) (by kernel_rfl) (by simp) ?_
  refine (AllReadyH.cons (o := { dst := some 12, op := Op.call { callee := Callee.value (Operand.func 72), args := #[Operand.tmp 11], argTypes := #[71] }, type := 9, pos := "ref.go:31", after := #[{ on := 1, ground := Ground.data }], guard := none }) rfl (fun K hK => ?_) (AllReadyH.cons (o := { dst := some 17, op := Op.buildSlice 47 1 #[(0, Operand.tmp 16)], type := 47, pos := "ref.go:31", after := #[{ on := 6, ground := Ground.data }], guard := none }) rfl (fun K hK => ?_) AllReadyH.nil))
  · go_simp
    (go_at_call 72; ((refine (HI.out _).mono ?_); rintro e wc ⟨rfl, bb⟩; have BC := Lib.hid (bel_dr bb); clear bb))
    refine hK.out _ _ trivial (fun hHeld => ?_)
    clear hHeld hK K
    try simp only [pu, pn, s1, s2, s3]
    refine wpAnyH_ready (rs := [7]) (by kernel_rfl) (by simp) ?_
    refine (AllReadyH.cons (o := { dst := some 17, op := Op.buildSlice 47 1 #[(0, Operand.tmp 16)], type := 47, pos := "ref.go:31", after := #[{ on := 6, ground := Ground.data }], guard := none }) rfl (fun K hK => ?_) AllReadyH.nil)
    go_simp
    obtain ⟨wb, hwb⟩ : ∃ V, V = wc.alloc (.cells #[.int .u8 (48 + (r : Int))] 5) := ⟨_, rfl⟩
    have ZB := Lib.hid (show wb.heap[wc.heap.size]? = some (.cells #[.int .u8 (48 + (r : Int))] 5) by rw [hwb]; exact heap_alloc_new wc _)
    have BB := Lib.hid (show Below w.heap.size w wb by rw [hwb]; exact bel_alloc BC.out _)
    rw [← hwb]
    clear hwb
    refine hK.out _ _ trivial (fun hHeld => ?_)
    clear hHeld hK K
    try simp only [pu, pn, s1, s2, s3]
    refine wpAnyH_ready (rs := [8]) (by kernel_rfl) (by simp) ?_
    refine (AllReadyH.cons (o := { dst := some 18, op := Op.convert 47 9 (Operand.tmp 17), type := 9, pos := "ref.go:31", after := #[{ on := 7, ground := Ground.data }], guard := none }) rfl (fun K hK => ?_) AllReadyH.nil)
    have cv := conv_one r HR9.out _ _ ZB.out
    go_simp
    clear cv
    refine hK.out _ _ trivial (fun hHeld => ?_)
    clear hHeld hK K
    try simp only [pu, pn, s1, s2, s3]
    refine wT (i := 9) (oi := { dst := some 19, op := Op.binOp BinOp.add 9 (Operand.tmp 12) (Operand.tmp 18) 9, type := 9, pos := "ref.go:31", after := #[{ on := 2, ground := Ground.data }, { on := 8, ground := Ground.data }], guard := none }) (v := ?_) rfl (Or.inl ⟨by rfl, ?_⟩) trivial ?_
    rotate_left
    · intro w hSw; clear hSw; go_simp; try with_reducible rfl
    try simp only [pu, pn, s1, s2, s3]
    refine wT (i := 10) (oi := { dst := some 2, op := Op.assign (Operand.tmp 19), type := 9, pos := "ref.go:31", after := #[{ on := 9, ground := Ground.data }, { on := 2, ground := Ground.chain }, { on := 0, ground := Ground.phase }, { on := 1, ground := Ground.phase }, { on := 2, ground := Ground.phase }, { on := 3, ground := Ground.phase }, { on := 4, ground := Ground.phase }, { on := 5, ground := Ground.phase }, { on := 6, ground := Ground.phase }, { on := 7, ground := Ground.phase }, { on := 8, ground := Ground.phase }, { on := 9, ground := Ground.phase }], guard := none }) (v := ?_) rfl (Or.inl ⟨by rfl, ?_⟩) trivial ?_
    rotate_left
    · intro w hSw; clear hSw; go_simp; try with_reducible rfl
    try simp only [pu, pn, s1, s2, s3]
    refine wpAnyH_done (by kernel_rfl) ?_ _
    go_wp2
    go_ret
    exact ⟨by rw [HE.out]; try rfl, BB.out⟩
  · go_simp
    obtain ⟨wb, hwb⟩ : ∃ V, V = (w.alloc (.cells #[.int .u8 (48 + (r : Int))] 5)).drew := ⟨_, rfl⟩
    have ZB := Lib.hid (show wb.heap[w.heap.size]? = some (.cells #[.int .u8 (48 + (r : Int))] 5) by rw [hwb]; exact heap_alloc_new w _)
    have BB := Lib.hid (show Below w.heap.size w wb by rw [hwb]; exact (alb w _).drew)
    rw [← hwb]
    clear hwb
    refine hK.out _ _ trivial (fun hHeld => ?_)
    clear hHeld hK K
    try simp only [pu, pn, s1, s2, s3]
    refine wpAnyH_ready (rs := [2, 8]) (by kernel_rfl) (by simp) ?_
    refine (AllReadyH.cons (o := { dst := some 12, op := Op.call { callee := Callee.value (Operand.func 72), args := #[Operand.tmp 11], argTypes := #[71] }, type := 9, pos := "ref.go:31", after := #[{ on := 1, ground := Ground.data }], guard := none }) rfl (fun K hK => ?_) (AllReadyH.cons (o := { dst := some 18, op := Op.convert 47 9 (Operand.tmp 17), type := 9, pos := "ref.go:31", after := #[{ on := 7, ground := Ground.data }], guard := none }) rfl (fun K hK => ?_) AllReadyH.nil))
    · go_simp
      (go_at_call 72; ((refine (HI.out _).mono ?_); rintro e wc ⟨rfl, bb⟩; have BC := Lib.hid (bel_trans BB.out bb); have ZC := Lib.hid (keep_bel bb ZB.out); clear bb))
      refine hK.out _ _ trivial (fun hHeld => ?_)
      clear hHeld hK K
      try simp only [pu, pn, s1, s2, s3]
      refine wpAnyH_ready (rs := [8]) (by kernel_rfl) (by simp) ?_
      refine (AllReadyH.cons (o := { dst := some 18, op := Op.convert 47 9 (Operand.tmp 17), type := 9, pos := "ref.go:31", after := #[{ on := 7, ground := Ground.data }], guard := none }) rfl (fun K hK => ?_) AllReadyH.nil)
      have cv := conv_one r HR9.out _ _ ZC.out
      go_simp
      clear cv
      refine hK.out _ _ trivial (fun hHeld => ?_)
      clear hHeld hK K
      try simp only [pu, pn, s1, s2, s3]
      refine wT (i := 9) (oi := { dst := some 19, op := Op.binOp BinOp.add 9 (Operand.tmp 12) (Operand.tmp 18) 9, type := 9, pos := "ref.go:31", after := #[{ on := 2, ground := Ground.data }, { on := 8, ground := Ground.data }], guard := none }) (v := ?_) rfl (Or.inl ⟨by rfl, ?_⟩) trivial ?_
      rotate_left
      · intro w hSw; clear hSw; go_simp; try with_reducible rfl
      try simp only [pu, pn, s1, s2, s3]
      refine wT (i := 10) (oi := { dst := some 2, op := Op.assign (Operand.tmp 19), type := 9, pos := "ref.go:31", after := #[{ on := 9, ground := Ground.data }, { on := 2, ground := Ground.chain }, { on := 0, ground := Ground.phase }, { on := 1, ground := Ground.phase }, { on := 2, ground := Ground.phase }, { on := 3, ground := Ground.phase }, { on := 4, ground := Ground.phase }, { on := 5, ground := Ground.phase }, { on := 6, ground := Ground.phase }, { on := 7, ground := Ground.phase }, { on := 8, ground := Ground.phase }, { on := 9, ground := Ground.phase }], guard := none }) (v := ?_) rfl (Or.inl ⟨by rfl, ?_⟩) trivial ?_
      rotate_left
      · intro w hSw; clear hSw; go_simp; try with_reducible rfl
      try simp only [pu, pn, s1, s2, s3]
      refine wpAnyH_done (by kernel_rfl) ?_ _
      go_wp2
      go_ret
      exact ⟨by rw [HE.out]; try rfl, BC.out⟩
    · have cv := conv_one r HR9.out _ _ ZB.out
      go_simp
      clear cv
      refine hK.out _ _ trivial (fun hHeld => ?_)
      clear hHeld hK K
      try simp only [pu, pn, s1, s2, s3]
      refine wpAnyH_ready (rs := [2]) (by kernel_rfl) (by simp) ?_
      refine (AllReadyH.cons (o := { dst := some 12, op := Op.call { callee := Callee.value (Operand.func 72), args := #[Operand.tmp 11], argTypes := #[71] }, type := 9, pos := "ref.go:31", after := #[{ on := 1, ground := Ground.data }], guard := none }) rfl (fun K hK => ?_) AllReadyH.nil)
      go_simp
      (go_at_call 72; ((refine (HI.out _).mono ?_); rintro e wc ⟨rfl, bb⟩; have BC := Lib.hid (bel_trans BB.out bb); have ZC := Lib.hid (keep_bel bb ZB.out); clear bb))
      refine hK.out _ _ trivial (fun hHeld => ?_)
      clear hHeld hK K
      try simp only [pu, pn, s1, s2, s3]
      refine wT (i := 9) (oi := { dst := some 19, op := Op.binOp BinOp.add 9 (Operand.tmp 12) (Operand.tmp 18) 9, type := 9, pos := "ref.go:31", after := #[{ on := 2, ground := Ground.data }, { on := 8, ground := Ground.data }], guard := none }) (v := ?_) rfl (Or.inl ⟨by rfl, ?_⟩) trivial ?_
      rotate_left
      · intro w hSw; clear hSw; go_simp; try with_reducible rfl
      try simp only [pu, pn, s1, s2, s3]
      refine wT (i := 10) (oi := { dst := some 2, op := Op.assign (Operand.tmp 19), type := 9, pos := "ref.go:31", after := #[{ on := 9, ground := Ground.data }, { on := 2, ground := Ground.chain }, { on := 0, ground := Ground.phase }, { on := 1, ground := Ground.phase }, { on := 2, ground := Ground.phase }, { on := 3, ground := Ground.phase }, { on := 4, ground := Ground.phase }, { on := 5, ground := Ground.phase }, { on := 6, ground := Ground.phase }, { on := 7, ground := Ground.phase }, { on := 8, ground := Ground.phase }, { on := 9, ground := Ground.phase }], guard := none }) (v := ?_) rfl (Or.inl ⟨by rfl, ?_⟩) trivial ?_
      rotate_left
      · intro w hSw; clear hSw; go_simp; try with_reducible rfl
      try simp only [pu, pn, s1, s2, s3]
      refine wpAnyH_done (by kernel_rfl) ?_ _
      go_wp2
      go_ret
      exact ⟨by rw [HE.out]; try rfl, BC.out⟩
theorem delta_any (u : Nat) : ∀ (hu : u ≤ 18446744073709551615) (w : World), Calls Tryz.prog 72 #[.int .u64 u] w fun e w' => e = .returned (.string (utoaB u)) ∧ Below w.heap.size w w' := by
  induction u using Nat.strongRecOn with
  | _ u ih =>
    intro hu w
    by_cases h : u < 10
    · exact delta_small u h w
    · exact delta_step u h hu w (fun W => ih (u / 10) (by omega) (by omega) W)
end Go.Proofs.YtdebedeebmmleaaGreatDoor
namespace Go.Proofs.YtdebedeebmmleaaGreatDoor

theorem bl_irr : ∀ x : List UInt8, Op.bytesLess x x = false
  | [] => rfl
  | a :: x => by simp [Op.bytesLess, bl_irr x, UInt8.lt_iff_toNat_lt]

theorem bl_tri : ∀ x y : List UInt8, Op.bytesLess x y = true ∨ x = y ∨ Op.bytesLess y x = true
  | [], [] => .inr (.inl rfl)
  | [], _ :: _ => .inl rfl
  | _ :: _, [] => .inr (.inr rfl)
  | a :: x, b :: y => by
    rcases Nat.lt_trichotomy a.toNat b.toNat with h | h | h
    · left; simp [Op.bytesLess, UInt8.lt_iff_toNat_lt, h]
    · have e : a = b := UInt8.toNat_inj.1 h
      subst e
      rcases bl_tri x y with k | k | k
      · left; simp [Op.bytesLess, k]
      · right; left; rw [k]
      · right; right; simp [Op.bytesLess, k]
    · right; right; simp [Op.bytesLess, UInt8.lt_iff_toNat_lt, h]

theorem bl_trans : ∀ x y z : List UInt8, Op.bytesLess x y = true → Op.bytesLess y z = true → Op.bytesLess x z = true
  | _, [], _ => by simp [Op.bytesLess]
  | _, _ :: _, [] => by simp [Op.bytesLess]
  | [], _ :: _, _ :: _ => by simp [Op.bytesLess]
  | a :: x, b :: y, c :: z => by
    intro h k
    simp only [Op.bytesLess, Bool.or_eq_true, decide_eq_true_eq, Bool.and_eq_true, beq_iff_eq, UInt8.lt_iff_toNat_lt] at h k ⊢
    rcases h with h | ⟨rfl, h⟩
    · rcases k with k | ⟨rfl, k⟩
      · left; omega
      · left; exact h
    · rcases k with k | ⟨rfl, k⟩
      · left; exact k
      · right; exact ⟨rfl, bl_trans x y z h k⟩

theorem bl_asymm (x y : List UInt8) (h : Op.bytesLess x y = true) : Op.bytesLess y x = false := by
  cases k : Op.bytesLess y x with
  | false => rfl
  | true => have := bl_trans _ _ _ h k; rw [bl_irr] at this; cases this

theorem bl_le (x y : List UInt8) : (Op.bytesLess x y || x == y) = !Op.bytesLess y x := by
  rcases bl_tri x y with h | h | h
  · rw [h, bl_asymm _ _ h]; rfl
  · subst h; simp [bl_irr]
  · rw [bl_asymm _ _ h, h]
    have : (x == y) = false := by
      cases k : x == y with
      | false => rfl
      | true => rw [beq_iff_eq] at k; subst k; rw [bl_irr] at h; cases h
    rw [this]; rfl

theorem bl_ge (x y : List UInt8) : (Op.bytesLess x y = true ∨ (x == y) = true) ↔ Op.bytesLess y x = false := by
  have h := bl_le x y
  rw [← Bool.or_eq_true, h]; simp
theorem bl_gt (x y : List UInt8) : (Op.bytesLess x y = false ∧ (x == y) = false) ↔ Op.bytesLess y x = true := by
  have h := bl_le x y
  rw [← Bool.or_eq_false_iff, h]; simp
end Go.Proofs.YtdebedeebmmleaaGreatDoor
