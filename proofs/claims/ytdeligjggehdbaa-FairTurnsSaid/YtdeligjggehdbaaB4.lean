/- The law FairTurns: its walk. -/
import Derived.Test.YtdeligjggehdbaaB3
namespace Go.Proofs.Ytdeligjggehdbaa
set_option linter.unusedSimpArgs false
open Go.RowKit Go.Maps
set_option linter.unusedVariables false

/-- Nothing is put behind a row. -/
theorem put_none {w : World} {base n : Nat} {v : Value} {xs : List Value} (h : w.ownsRow base 3 1 v n xs) (hn : n ≤ 1000000) (hb : base ≤ w.heap.size) (A : Option Addr) (c : Nat) (ty : TypeId) :
    ∃ v' w', (Builtin.append_ #[22, 22] ty #[v, .slice A 0 c]).run Try.prog w = .ok v' w' ∧ w'.ownsRow base 3 1 v' n xs ∧ w.grownBy w' v.ownBlock := by
  obtain ⟨i0, hI0, hI1, hI2, hI3⟩ := info_parts info3
  cases A with
  | none =>
    refine ⟨v, w, ?_, h, ⟨rfl, rfl, rfl, Nat.le_refl _, fun _ _ _ => rfl⟩⟩
    rcases h.2 with ⟨rfl, h0⟩ | ⟨g, cap, cur, rfl, _, _, hcap, _⟩
    · simp [Builtin.append_, run_underlying Try.underlying22, sizeOf, typeInfo, hI0, Builtin.lenOf, Builtin.firstCells]
    · simp [Builtin.append_, run_underlying Try.underlying22, sizeOf, typeInfo, hI0, Builtin.lenOf, Builtin.firstCells, hcap, storeCells]
  | some a =>
    obtain ⟨v', w', hr, h2, h3, _⟩ := run_append_own_at (P := Try.prog) w base 22 ty 3 i0 (.int .i64 0) 1 8 Try.underlying22 hI0 hI1 hI2 hI3 rfl (by decide) v n xs h a 0 c [] rfl (fun j u hu => by simp at hu) (by simp) (by unfold maxLen; omega) (by omega) hb
    exact ⟨v', w', hr, by simpa using h2, h3⟩
theorem wpList_put_none (w : World) {ops : Array Oper} {rest : List Oper} {o : Oper} {a : Act} {Q : Exit → Act → World → Prop} (hg : o.guard = none) (s x : Operand)
    (hop : o.op = Op.call { callee := Callee.builtin Builtin.append, args := #[s, x], argTypes := #[22, 22] }) {base n : Nat} {v : Value} {xs : List Value} (A : Option Addr) (c : Nat) (hs : a.eval s = v) (hx : a.eval x = .slice A 0 c)
    (h : w.ownsRow base 3 1 v n xs) (hn : n ≤ 1000000) (hb : base ≤ w.heap.size)
    (hK : ∀ v' w', w'.ownsRow base 3 1 v' n xs → w.grownBy w' v.ownBlock → wpList Try.prog ops Q rest (a.put o.dst v') w') :
    wpList Try.prog ops Q (o :: rest) a w := by
  refine wpList_plain hg fun K' hK' => ?_
  obtain ⟨v', w', hrun, r1, r2⟩ := put_none h hn hb A c o.type
  unfold Oper.wp
  simp [execOp, hop, resolve, invoke, builtin, hs, hx, hrun, Result.andThen]
  exact hK' _ _ (hK v' w' r1 r2)
theorem rounds_any (A : Option Addr) (n2 c2 : Nat) (n : Int) (q : List Int) (w : World) (hq : q.length = n2) (h2 : n2 ≤ 60) (hn : n ≤ 100) (hB : RdI w A q) :
    Calls Try.prog 14 #[.slice A n2 c2, .int .i64 n] w (RPost w (repF q n.toNat)) := by
  by_cases h : n2 = 0 ∨ n < 1
  · have e : repF q n.toNat = [] := by
      rcases h with h | h
      · rw [List.eq_nil_of_length_eq_zero (hq.trans h), rep_nil]
      · rw [show n.toNat = 0 by omega]; rfl
    rw [e]
    exact rounds_no A n2 c2 n w h
  · obtain ⟨N, rfl⟩ : ∃ N : Nat, n = N := ⟨n.toNat, by omega⟩
    rw [Int.toNat_natCast]
    exact rounds_yes A n2 c2 N q w hq (by omega) h2 (by omega) (by omega) hB
set_option maxRecDepth 100000 in
set_option maxHeartbeats 1500000 in
theorem turns_in (A1 A2 : Option Addr) (n1 c1 n2 c2 : Nat) (p q : List Int) (n : Int) (w : World) (m1 m2 : Nat) (hm1 : m1 = min n1 60) (hm2 : m2 = min n2 60) (hp : p.length = m1) (hq : q.length = m2) (hc1 : n1 ≤ c1) (hcm1 : c1 ≤ maxLen) (hc2 : n2 ≤ c2) (hcm2 : c2 ≤ maxLen) (hA : RdI w A1 p) (hB : RdI w A2 q)
    (wp : ∀ x ∈ p, (Lit.int .i64 x).wf = true) (wq : ∀ x ∈ q, (Lit.int .i64 x).wf = true) :
    Calls Try.prog 4 #[.slice A1 n1 c1, .slice A2 n2 c2, .int .i64 n] w fun e w' => e = .returned (.bool true) ∧ Below w.heap.size w w' := by
  have hm160 : m1 ≤ 60 := by omega
  have hm260 : m2 ≤ 60 := by omega
  have hmc : m1 ≤ c1 := by omega
  have HP := Lib.hid (fun V (h : Below w.heap.size w V) => hA.later h)
  have HQ := Lib.hid (fun V (h : Below w.heap.size w V) => hB.later h)
  have hflat := TF_flat p q m1 (by omega)
  have hLm := (TF_le p q m1).2
  have C5a := Lib.hid (fun V => by have h := few_any A1 n1 c1 V hc1 hcm1; rw [← hm1] at h; exact h)
  have C5b := Lib.hid (fun V => by have h := few_any A2 n2 c2 V hc2 hcm2; rw [← hm2] at h; exact h)
  have C11 := Lib.hid (fun V hA hB => turns_any A1 A2 m1 c1 m2 c2 p q V hp hq (by omega) (by omega) hmc hcm1 hA hB wp wq)
  have C12 := Lib.hid (fun V hA hB => rturns_any A1 A2 m1 c1 m2 c2 p q V hp hq (by omega) (by omega) hmc hcm1 hA hB)
  have HPL := Lib.hid hp
  have HQL := Lib.hid hq
  have HCM := Lib.hid hcm1
  unfold maxLen at hcm1
  clear hm1 hm2 hp hq hA hB wp wq hcm2 hc1 hc2
  obtain ⟨L, hL⟩ : ∃ L, L = (TF p q m1).1 := ⟨_, rfl⟩
  obtain ⟨f, hf⟩ : ∃ f, f = (TF p q m1).2 := ⟨_, rfl⟩
  rw [← hL] at C11 C12 hflat hLm
  rw [← hf] at hflat
  clear hL hf
  have HFL := Lib.hid hflat
  clear hflat
  go_enter Try.func4, Try.ntmps4
  go_wp2_with (first
    | (go_at_call 5; ((with_reducible refine (C5a.out _).mono ?_); rintro e w1 ⟨rfl, rfl⟩))
    | (go_at_call 5; ((with_reducible refine (C5b.out _).mono ?_); rintro e w1 ⟨rfl, rfl⟩))
    | fail)
  refine (C11.out _ (HP.out _ (Below.refl _ _)) (HQ.out _ (Below.refl _ _))).mono ?_
  rintro e w1 ⟨v, xs, rfl, hown, hpcs, hb1⟩
  obtain ⟨LA, lc, rfl, _⟩ := own_form hown
  have HO := Lib.hid hown
  have HPC := Lib.hid hpcs
  have HB1 := Lib.hid hb1
  clear hown hpcs hb1
  go_wp2_with fail
  refine (C12.out _ (HP.out _ HB1.out) (HQ.out _ HB1.out)).mono ?_
  rintro e w2 ⟨v, xs2, rfl, hown2, hpcs2, hb2⟩
  obtain ⟨MA, mc, rfl, _⟩ := own_form hown2
  have HO2 := Lib.hid hown2
  have HPC2 := Lib.hid hpcs2
  have HO1 := Lib.hid (own_bel HO.out hb2)
  have HPC1 := Lib.hid (HPC.out.later hb2)
  have HB2 := Lib.hid (bel_trans HB1.out hb2)
  clear hown2 hpcs2 hb2 HO HPC HB1
  go_wp2_with fail
  go_loopw [9, 10] (fun av iv wr => ∃ (i d : Nat), i ≤ L.length ∧ iv = .int .i64 i ∧ av = .int .i64 (atF L i : Nat) ∧ wr = w2.drewN d) (fun _ i _ => L.length - (intOf i).toNat)
  case atStart => exact ⟨0, 0, by omega, rfl, rfl, rfl⟩
  case round =>
    obtain ⟨i, d, hi, rfl, rfl, hwr⟩ := hrel
    have HW := Lib.hid hwr
    clear hwr
    by_cases h8 : i = L.length
    · have hin : ¬ (i : Int) < (L.length : Int) := by omega
      have HB3 : Hid (Below w.heap.size w wr) := Lib.hid (by rw [HW.out]; exact bel_drewN HB2.out d)
      clear HB2 HW HPC1 HPC2 HO1 HO2
      by_cases hn : 100 < n
      · go_wp2_with fail
        refine (live_any _).mono ?_
        rintro e w3 ⟨rfl, hb⟩
        have HB4 := Lib.hid (bel_trans HB3.out hb)
        clear hb
        go_wp2_with fail
        go_ret
        exact ⟨rfl, HB4.out⟩
      · have C14 := Lib.hid (fun V hB => rounds_any A2 m2 c2 n q V HQL.out hm260 (by omega) hB)
        go_wp2_with fail
        refine (C14.out _ (HQ.out _ HB3.out)).mono ?_
        rintro e w3 ⟨v, rfl, hown, hb⟩
        have HB4 := Lib.hid (bel_trans HB3.out hb)
        obtain ⟨RA, rc, rfl, hrd⟩ := own_form hown
        have HRD := Lib.hid hrd
        have hlen := rep_len q n.toNat
        clear hb hown hrd
        obtain ⟨N, hN⟩ : ∃ N, N = n.toNat := ⟨_, rfl⟩
        rw [← hN] at HRD hlen ⊢
        obtain ⟨l, hl⟩ : ∃ l, l = repF q N := ⟨_, rfl⟩
        rw [← hl] at HRD hlen ⊢
        have HL := Lib.hid hl
        have HLEN := Lib.hid hlen
        have HNN := Lib.hid hN
        clear hl hlen hN
        have HW0 : Hid ((w3.alloc (.cells #[] 3)).ownsRow w3.heap.size 3 1 (.slice (some ⟨w3.heap.size, 0, none⟩) 0 0) 0 []) := Lib.hid (World.ownsRow_made w3 #[] 0 (Nat.le_refl _) (Nat.zero_le _) (by simp))
        go_wp2_with fail
        go_loopw [12, 13] (fun vv iv wv => ∃ k : Nat, k ≤ N ∧ iv = .int .i64 k ∧ wv.ownsRow w3.heap.size 3 1 vv (k * m2) ((repF q k).map (Value.int .i64)) ∧ Below w3.heap.size w3 wv) (fun _ i _ => N - (intOf i).toNat)
        case atStart => exact ⟨0, by omega, rfl, by simpa [repF] using HW0.out, (Below.refl _ _).alloc (Nat.le_refl _) _⟩
        case round =>
          obtain ⟨k, hk, rfl, hrow, hbw⟩ := hrel
          obtain ⟨w4, rfl⟩ : ∃ w4 : World, w4 = wr := ⟨_, rfl⟩
          have HROW := Lib.hid hrow
          have HBW := Lib.hid hbw
          clear hrow hbw
          by_cases h9 : k = N
          · have hkn : ¬ (k : Int) < n := by have := HNN.out; omega
            obtain ⟨WA, wc, hwf, hrd⟩ := own_form HROW.out
            have HRD2 := Lib.hid hrd
            have HR2 := Lib.hid (HRD.out.later HBW.out)
            clear hrd
            rw [h9] at HRD2 hwf
            go_wp2_with fail
            refine (live_any _).mono ?_
            rintro e w5 ⟨rfl, hb⟩
            have HB5 := Lib.hid (bel_trans (bel_trans HB4.out HBW.out) hb)
            have HRD5 := Lib.hid (HRD2.out.later hb)
            have HR5 := Lib.hid (HR2.out.later hb)
            clear hb
            go_wp2_with fail
            have hll : l.length = N * m2 := by rw [HLEN.out, HQL.out]
            have hN100 : N ≤ 100 := by have := HNN.out; omega
            have hprod : N * m2 ≤ 100 * 60 := Nat.mul_le_mul hN100 hm260
            have h2 : RdI w5 WA l := by rw [HL.out]; exact HRD5.out
            have CS := same_any RA WA l.length rc (N * m2) wc l l w5 rfl hll (by omega) (by omega) HR5.out h2
            rw [show decide (l = l) = true by simp] at CS
            refine CS.mono ?_
            rintro e w6 ⟨rfl, d6, hd6⟩
            have HB6 : Hid (Below w.heap.size w w6) := Lib.hid (by rw [hd6]; exact bel_drewN HB5.out d6)
            clear hd6 CS h2 hll
            go_wp2_with fail
            go_ret
            exact ⟨rfl, HB6.out⟩
          · have hkn : k < N := by omega
            have hk1 : (k : Int) < n := by have := HNN.out; omega
            have hk0 : (0 : Int) ≤ (k : Int) := by omega
            have hN100 : N ≤ 100 := by have := HNN.out; omega
            have hkm : k * m2 ≤ 100 * 60 := Nat.mul_le_mul (by omega) hm260
            by_cases hm0 : m2 = 0
            · have HQ0 : Hid (repF q (k + 1) = repF q k ∧ (k + 1) * m2 = k * m2) := Lib.hid (by
                have : q = [] := List.eq_nil_of_length_eq_zero (HQL.out.trans hm0)
                rw [this, rep_nil, rep_nil, hm0]; simp)
              subst hm0
              go_wp2_with (first
                | (at_builtin; refine wpList_put_none _ rfl (.tmp 94) (.tmp 95) rfl A2 c2 rfl rfl HROW.out (by omega) HBW.out.size ?_; intro v5 w5 hin hg2)
                | fail)
              exact ⟨⟨k + 1, by omega, by simp, by rw [HQ0.out.1, HQ0.out.2]; exact hin, HBW.out.grown hg2 HBW.out.size (fun j hj => (HROW.out.lt j hj).1)⟩, by simp [intOf]; omega⟩
            · obtain ⟨b, off, rfl, hlt, g⟩ := rdi_get (HQ.out _ (bel_step HB4.out HBW.out (Nat.le_refl _))) (k := 0) (by rw [HQL.out]; omega)
              have HRQ := Lib.hid (HQ.out _ (bel_step HB4.out HBW.out (Nat.le_refl _)))
              clear g
              obtain ⟨i0, hI0, hI1, hI2, hI3⟩ := info_parts info3
              go_wp2_with (first
                | (at_builtin; refine wpList_append_lies _ rfl (.tmp 94) (.tmp 95) 22 rfl w3.heap.size 3 i0 (.int .i64 0) 1 8 Try.underlying22 hI0 hI1 hI2 hI3 rfl (by decide) u12 (k * m2) ((repF q k).map (Value.int .i64)) rfl HROW.out ⟨b, off, none⟩ m2 c2 (q.map (Value.int .i64)) rfl (by rw [List.length_map, HQL.out, Nat.mul_one]) (rdi_news HRQ.out) (one_ints _) (by omega) (by unfold maxLen; omega) (by omega) HBW.out.size w4.heap.size rfl ?_; intro g1 cap1 w5 hin hg2 hloc hlt2)
                | fail)
              have hin' : w5.ownsRow w3.heap.size 3 1 (.slice (some ⟨g1, 0, none⟩) (k * m2 + m2) cap1) ((k + 1) * m2) ((repF q (k + 1)).map (Value.int .i64)) := by rw [Nat.add_mul, Nat.one_mul, repF, List.map_append]; exact hin
              exact ⟨⟨k + 1, by omega, by simp, hin', HBW.out.grown hg2 HBW.out.size (fun j hj => (HROW.out.lt j hj).1)⟩, by simp [intOf]; omega⟩
    · have hin : i < L.length := by omega
      have hi1 : (i : Int) < (L.length : Int) := by omega
      have hi0 : (0 : Int) ≤ (i : Int) := by omega
      obtain ⟨rb, ro, b, off, cc, rfl, g1, g2, g3, g4⟩ := HPC1.out.piece HO1.out hin
      obtain ⟨rb2, ro2, b2, off2, cc2, rfl, k1, k2, k3, k4⟩ := HPC2.out.piece HO2.out hin
      obtain ⟨a1, a2, a3⟩ := flat_at p L f i HFL.out.1 hin
      have ln := HFL.out.2 _ (List.getElem_mem hin)
      rw [HPL.out] at a1
      obtain ⟨pb, po, rfl, _, _⟩ := rdi_get (HP.out _ HB2.out) (k := 0) (by rw [HPL.out]; omega)
      have hseg := rdi_sub (HP.out _ HB2.out) (atF L i) L[i].length
      rw [a2] at hseg
      obtain ⟨s, hs⟩ : ∃ s, s = L[i] := ⟨_, rfl⟩
      rw [← hs] at g1 g2 g3 k1 k2 k3 a1 a3 ln hseg
      obtain ⟨at0, ha⟩ : ∃ a, a = atF L i := ⟨_, rfl⟩
      rw [← ha] at a1 a3 hseg
      rw [← ha]
      obtain ⟨sl, hsl⟩ : ∃ n, n = s.length := ⟨_, rfl⟩
      rw [← hsl] at g1 g3 k1 k3 a1 a3 ln
      have e1 : wr.cell? ⟨rb, ro + i, none⟩ = some (.slice (some ⟨b, off, none⟩) sl cc) := by rw [HW.out]; exact g1
      have e2 : wr.cell? ⟨rb2, ro2 + i, none⟩ = some (.slice (some ⟨b2, off2, none⟩) sl cc2) := by rw [HW.out]; exact k1
      have G2 : Hid (RdI wr (some ⟨b, off, none⟩) s) := Lib.hid (by rw [HW.out]; exact g2)
      have K2 : Hid (RdI wr (some ⟨b2, off2, none⟩) s) := Lib.hid (by rw [HW.out]; exact k2)
      have S2 : Hid (RdI wr (some ⟨pb, po + at0, none⟩) s) := Lib.hid (by rw [HW.out]; exact hseg)
      have ss : decide (s = s) = true := by simp
      have Ca := Lib.hid (fun V hA hB => by have h := same_any (some ⟨b, off, none⟩) (some ⟨b2, off2, none⟩) sl cc sl cc2 s s V hsl.symm hsl.symm (by omega) (by omega) hA hB; rw [ss] at h; exact h)
      have Cb := Lib.hid (fun V hA hB => by have h := same_any (some ⟨pb, po + at0, none⟩) (some ⟨b, off, none⟩) sl (c1 - at0) sl cc s s V hsl.symm hsl.symm (by omega) (by omega) hA hB; rw [ss] at h; exact h)
      have HA3 := Lib.hid a3
      clear g1 g2 k1 k2 hs ha hsl hseg a2 a3 ss
      have Qa := Lib.hid (fun n => Calls.quiet_of (Ca.out (wr.drewN n) G2.out K2.out))
      have Qb := Lib.hid (fun n => Calls.quiet_of (Cb.out (wr.drewN n) S2.out G2.out))
      clear Ca Cb
      go_wp2_with fail
      have w1' : IntKind.i64.wrap ((at0 : Int) + (sl : Int)) = (at0 : Int) + (sl : Int) := IntWalk.i64_in _ (by omega)
      have w2' : IntKind.i64.wrap ((m1 : Int) - (at0 : Int)) = (m1 : Int) - (at0 : Int) := IntWalk.i64_in _ (by omega)
      have w3' : ((at0 : Int) + (sl : Int)).toNat = at0 + sl := by omega
      have w4' : ¬ ((m1 : Int) - (at0 : Int) < (sl : Int)) := by omega
      have w4'' : decide ((m1 : Int) - (at0 : Int) < (sl : Int)) = false := by simpa using w4'
      have w5' : (at0 : Int) + (sl : Int) ≤ (c1 : Int) := by omega
      have w6' : (at0 : Int) ≤ (at0 : Int) + (sl : Int) := by omega
      have w7' : ¬ (c1 = at0) := by omega
      have w8' : (0 : Int) ≤ (at0 : Int) + (sl : Int) := by omega
      have w9' : (0 : Int) ≤ (at0 : Int) := by omega
      go_quiet ((first | (go_at_call 13; with_reducible exact Qa.out _) | (go_at_call 13; with_reducible exact Qb.out _)))
      clear w1' w2' w3' w4' w4'' w5' w6' w7' w8'
      go_wp2_with fail
      exact ⟨⟨i + 1, d + nq, by omega, by simp, by rw [HA3.out]; simp, by rw [HW.out, World.drewN_drewN]⟩, by simp [intOf]; omega⟩
theorem turnslaw_any (A1 A2 : Option Addr) (n1 c1 n2 c2 : Nat) (p q : List Int) (n : Int) (w : World) (hp : p.length = n1) (hq : q.length = n2) (hc1 : n1 ≤ c1) (hcm1 : c1 ≤ maxLen) (hc2 : n2 ≤ c2) (hcm2 : c2 ≤ maxLen) (hA : RdI w A1 p) (hB : RdI w A2 q)
    (wp : ∀ x ∈ p, (Lit.int .i64 x).wf = true) (wq : ∀ x ∈ q, (Lit.int .i64 x).wf = true) :
    Calls Try.prog 4 #[.slice A1 n1 c1, .slice A2 n2 c2, .int .i64 n] w fun e w' => e = .returned (.bool true) ∧ Below w.heap.size w w' :=
  turns_in A1 A2 n1 c1 n2 c2 (p.take 60) (q.take 60) n w (min n1 60) (min n2 60) rfl rfl (by simp; omega) (by simp; omega) hc1 hcm1 hc2 hcm2 (rdi_take hA 60) (rdi_take hB 60) (fun x hx => wp x (List.mem_of_mem_take hx)) (fun x hx => wq x (List.mem_of_mem_take hx))
end Go.Proofs.Ytdeligjggehdbaa
