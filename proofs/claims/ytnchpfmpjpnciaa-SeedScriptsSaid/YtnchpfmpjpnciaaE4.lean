/- The program's script. -/
import Derived.Deep.AppendLies
import Derived.Test.YtnchpfmpjpnciaaE3
namespace Go.Proofs.Ytnchpfmpjpnciaa
set_option linter.unusedSimpArgs false
open Go.RowKit Go.Maps Go.Shelf
set_option linter.unusedVariables false
set_option maxHeartbeats 8000000 in
set_option maxRecDepth 4000 in
theorem script_p (c2 c3 c4 c5 c6 c7 c8 : Int) (seed sessions ops picks : Int) (hcf : cfA seed = #[.int .i64 4, .int .i64 16, .int .i64 c2, .int .i64 c3, .int .i64 c4, .int .i64 c5, .int .i64 c6, .int .i64 c7, .int .i64 c8]) (w : World) :
    Calls Try.prog 18 #[.int .u64 seed, .int .i64 sessions, .int .i64 ops, .int .i64 picks] w (SPost c2 c3 c4 c5 c6 c7 c8 seed (cl sessions 64) (mops ops) (nses sessions) (npk picks) w) := by
  have hal := run_zs
  have hsn := nses_cast sessions
  have hmo := mops_cast ops
  have hs := cl_range sessions 64 (by omega)
  obtain ⟨nn, hnn⟩ : ∃ x, x = nses sessions := ⟨_, rfl⟩
  obtain ⟨m, hm⟩ : ∃ x, x = mops ops := ⟨_, rfl⟩
  obtain ⟨ss, hss⟩ : ∃ x, x = cl sessions 64 := ⟨_, rfl⟩
  have CL := Lib.hid (fun W => clip_p sessions 64 W (by omega))
  have CO := Lib.hid (fun W => clip0_p ops 100 W (by omega))
  have PK := Lib.hid (fun (W : World) (g : Nat) (S : Int) (h : Src W 63 g S) => picks_p ss picks h (by omega))
  obtain ⟨np, hnp⟩ : ∃ x, x = npk picks := ⟨_, rfl⟩
  rw [← hnp] at PK
  rw [← hnn, ← hm, ← hss, ← hnp]
  rw [← hnn, ← hss] at hsn
  rw [← hm] at hmo
  rw [← hss] at hs
  rw [← hss] at CL
  rw [← hmo.1] at CO
  have hssn : ss = (nn : Int) := hsn.1.symm
  have hnn1 := hsn.2
  have hm1 := hmo.2
  have Z0 := Lib.hid (heap_alloc_new w (.cells #[.int .i64 0, .int .i64 0, .int .i64 0, .int .i64 0, .int .i64 0, .int .i64 0, .int .i64 0, .int .i64 0, .int .i64 0, .slice none 0 0, .slice none 0 0] 53))
  have CFG : Hid (Calls Try.prog 21 #[.int .u64 seed] (w.alloc (.cells #[.int .i64 0, .int .i64 0, .int .i64 0, .int .i64 0, .int .i64 0, .int .i64 0, .int .i64 0, .int .i64 0, .int .i64 0, .slice none 0 0, .slice none 0 0] 53)) fun e w' => e = .returned (.agg #[.int .i64 4, .int .i64 16, .int .i64 c2, .int .i64 c3, .int .i64 c4, .int .i64 c5, .int .i64 c6, .int .i64 c7, .int .i64 c8]) ∧ Below (w.alloc (.cells #[.int .i64 0, .int .i64 0, .int .i64 0, .int .i64 0, .int .i64 0, .int .i64 0, .int .i64 0, .int .i64 0, .int .i64 0, .slice none 0 0, .slice none 0 0] 53)).heap.size (w.alloc (.cells #[.int .i64 0, .int .i64 0, .int .i64 0, .int .i64 0, .int .i64 0, .int .i64 0, .int .i64 0, .int .i64 0, .int .i64 0, .slice none 0 0, .slice none 0 0] 53)) w') := Lib.hid (by rw [← hcf]; exact config_p seed _)
  subst hssn
  clear hnn hm hss hsn hmo hcf hnp
  go_enter Try.func18, Try.ntmps18
  go_wp2_with (first
    | (go_at_call 21; ((with_reducible refine CFG.out.mono ?_); rintro e w1 ⟨rfl, b1⟩; have Z1 := Lib.hid (keep_bel b1 Z0.out); have N1 : Hid (w.heap.size + 1 ≤ w1.heap.size) := Lib.hid (Nat.le_trans (by simp) b1.size); have BW1 : Hid (Below w.heap.size w w1) := Lib.hid ((alb w (.cells #[.int .i64 0, .int .i64 0, .int .i64 0, .int .i64 0, .int .i64 0, .int .i64 0, .int .i64 0, .int .i64 0, .int .i64 0, .slice none 0 0, .slice none 0 0] 53)).trans (b1.mono (by simp))); have NW := Lib.hid (new_any seed (w1.alloc (.cells #[.int .i64 4, .int .i64 16, .int .i64 c2, .int .i64 c3, .int .i64 c4, .int .i64 c5, .int .i64 c6, .int .i64 c7, .int .i64 c8, .slice none 0 0, .slice none 0 0] 53))); clear b1))
    | (go_at_call 5; ((with_reducible refine NW.out.mono ?_); rintro e w2 ⟨rfl, rfl⟩))
    | (go_at_call 24; ((with_reducible refine (CL.out _).mono ?_); rintro e w3 ⟨rfl, rfl⟩))
    | fail)
  have HOI : ∃ D, OInv w 63 (w1.heap.size + 1) w1.heap.size w.heap.size (w1.heap.size + 2) c2 c3 c4 c5 c6 c7 c8 m seed ((w1.alloc (.cells #[.int .i64 4, .int .i64 16, .int .i64 c2, .int .i64 c3, .int .i64 c4, .int .i64 c5, .int .i64 c6, .int .i64 c7, .int .i64 c8, .slice none 0 0, .slice none 0 0] 53)).alloc (.cells #[.int .u64 seed] 63)) 0 none 0 [] D := by
    have hx := keep_bel (alb (w1.alloc (.cells #[.int .i64 4, .int .i64 16, .int .i64 c2, .int .i64 c3, .int .i64 c4, .int .i64 c5, .int .i64 c6, .int .i64 c7, .int .i64 c8, .slice none 0 0, .slice none 0 0] 53)) (.cells #[.int .u64 seed] 63)) (heap_alloc_new w1 (.cells #[.int .i64 4, .int .i64 16, .int .i64 c2, .int .i64 c3, .int .i64 c4, .int .i64 c5, .int .i64 c6, .int .i64 c7, .int .i64 c8, .slice none 0 0, .slice none 0 0] 53))
    have hr := keep_bel (alb (w1.alloc (.cells #[.int .i64 4, .int .i64 16, .int .i64 c2, .int .i64 c3, .int .i64 c4, .int .i64 c5, .int .i64 c6, .int .i64 c7, .int .i64 c8, .slice none 0 0, .slice none 0 0] 53)) (.cells #[.int .u64 seed] 63)) (keep_bel (alb w1 (.cells #[.int .i64 4, .int .i64 16, .int .i64 c2, .int .i64 c3, .int .i64 c4, .int .i64 c5, .int .i64 c6, .int .i64 c7, .int .i64 c8, .slice none 0 0, .slice none 0 0] 53)) Z1.out)
    have hg := heap_alloc_new (w1.alloc (.cells #[.int .i64 4, .int .i64 16, .int .i64 c2, .int .i64 c3, .int .i64 c4, .int .i64 c5, .int .i64 c6, .int .i64 c7, .int .i64 c8, .slice none 0 0, .slice none 0 0] 53)) (.cells #[.int .u64 seed] 63)
    rw [World.size_alloc] at hg
    refine ⟨fun _ => False, hg, hx, hr, World.ownsRow_nil _ _ _ _, rfl, fun _ h => h.elim, fun _ h => by simp [Value.ownBlock] at h, BW1.out.trans (((alb w1 (.cells #[.int .i64 4, .int .i64 16, .int .i64 c2, .int .i64 c3, .int .i64 c4, .int .i64 c5, .int .i64 c6, .int .i64 c7, .int .i64 c8, .slice none 0 0, .slice none 0 0] 53)).mono BW1.out.size).trans ((alb (w1.alloc (.cells #[.int .i64 4, .int .i64 16, .int .i64 c2, .int .i64 c3, .int .i64 c4, .int .i64 c5, .int .i64 c6, .int .i64 c7, .int .i64 c8, .slice none 0 0, .slice none 0 0] 53)) (.cells #[.int .u64 seed] 63)).mono (by have := BW1.out.size; simp; omega))), by simp⟩
  obtain ⟨D0, hoi⟩ := HOI
  have HOI := Lib.hid hoi
  have PL : Hid (Pl w (w1.heap.size + 1) w1.heap.size w.heap.size (w1.heap.size + 2)) := Lib.hid (by
    have := N1.out
    exact ⟨by omega, by omega, by omega, by omega, by omega, by omega, by omega, by omega, by omega⟩)
  obtain ⟨bx, hbx⟩ : ∃ b, b = w1.heap.size := ⟨_, rfl⟩
  rw [← hbx] at HOI PL N1 ⊢
  clear hoi hbx Z1 NW CFG Z0 BW1
  generalize (w1.alloc (.cells #[.int .i64 4, .int .i64 16, .int .i64 c2, .int .i64 c3, .int .i64 c4, .int .i64 c5, .int .i64 c6, .int .i64 c7, .int .i64 c8, .slice none 0 0, .slice none 0 0] 53)).alloc (.cells #[.int .u64 seed] 63) = W at *
  obtain ⟨i0, hi0, hz0, hz1, hz2⟩ := info_parts info42z
  obtain ⟨i1, hi1, hy0, hy1, hy2⟩ := info_parts info75z
  go_loopw [11, 20, 24] (fun _ iv _ wr => ∃ (i : Nat) (A : Option Addr) (c : Nat) (lo : List Value) (D : Nat → Prop), i ≤ nn ∧ iv = .int .i64 i ∧ OInv w 63 (bx + 1) bx w.heap.size (bx + 2) c2 c3 c4 c5 c6 c7 c8 m seed wr i A c lo D) (fun _ i _ _ => nn - (intOf i).toNat)
  case atStart => exact ⟨0, _, _, _, _, by omega, rfl, HOI.out⟩
  case round =>
    obtain ⟨i, A, c, lo, D, hi, rfl, ho⟩ := hrel
    have HO := Lib.hid ho
    clear ho HOI
    by_cases h9 : i < nn
    · have hk1 : (i : Int) < (nn : Int) := by omega
      go_wp2_with (first
        | (go_at_call 24; ((with_reducible refine (CO.out _).mono ?_); rintro e w3 ⟨rfl, rfl⟩))
        | fail)
      go_loopw [11, 24] (fun rv kv wr2 => ∃ (j : Nat) (A' : Option Addr) (c' : Nat) (lr : List Value) (D' : Nat → Prop), j ≤ m ∧ kv = .int .i64 j ∧ rv = .slice A' j c' ∧ IInv w 63 (bx + 1) bx w.heap.size (bx + 2) c2 c3 c4 c5 c6 c7 c8 m seed wr2 i A c lo D' j A' c' lr) (fun _ k _ => m - (intOf k).toNat)
      case atStart => exact ⟨0, _, _, _, _, by omega, rfl, rfl, HO.out.begin (Below.refl _ _) none 0 (World.ownsRow_nil _ _ _ _) (fun _ h => by simp [Value.ownBlock] at h)⟩
      case round =>
        clear HO
        obtain ⟨j, A', c', lr, D', hj, rfl, rfl, hin⟩ := hrel
        have HI := Lib.hid hin
        clear hin
        by_cases h10 : j < m
        · have hk2 : (j : Int) < (m : Int) := by omega
          obtain ⟨S', hS'⟩ : ∃ x, x = ost (sst seed m i) j := ⟨_, rfl⟩
          have OP : Hid (Calls Try.prog 14 #[.pointer (some ⟨bx + 1, 0, none⟩)] wr fun e w' => ∃ B cb, e = .returned (.agg #[.int .u8 (oK S'), .string (oY S'), .string ⟨#[]⟩, .int .i64 (oN S'), .slice B (oL S') cb]) ∧ Eff 63 (bx + 1) (opstep S') wr w' ∧ RdV w' wr.heap.size B (oR S')) := Lib.hid (by rw [hS']; exact op_p HI.out.src)
          have HS := Lib.hid hS'
          clear hS'
          go_wp2_with (first
            | (go_at_call 14; ((with_reducible refine OP.out.mono ?_); rintro e w3 ⟨B, cb, rfl, he, hr⟩; have H3 := Lib.hid he; have HR := Lib.hid hr; have OW3 := Lib.hid (own_bel (own_chg HI.out.iown he.2 PL.out.g0) (alb w3 (.cells #[.int .u8 (oK S'), .string (oY S'), .string ⟨#[]⟩, .int .i64 (oN S'), .slice B (oL S') cb] 42))); have NW := Lib.hid (World.news_of_block (cs := #[.int .u8 (oK S'), .string (oY S'), .string ⟨#[]⟩, .int .i64 (oN S'), .slice B (oL S') cb]) (t := 42) (fr := (0, 0)) (heap_alloc_new w3 _)); have N3 : Hid (bx + 2 ≤ w3.heap.size) := Lib.hid (Nat.le_trans HI.out.blo he.2.size); clear he hr))
            | (at_builtin; refine wpList_append_lies _ rfl (.tmp 26) (.tmp 29) _ rfl (bx + 2) 42 i0 _ 5 72 Try.underlying75 hi0 hz0 hz1 hz2 rfl (by omega) (.slice A' j c') j lr rfl OW3.out ⟨w3.heap.size, 0, none⟩ 1 1 [.int .u8 (oK S'), .string (oY S'), .string ⟨#[]⟩, .int .i64 (oN S'), .slice B (oL S') cb] rfl rfl NW.out (by simp [Value.oneCell']) (by omega) (by simp only [maxLen]; omega) (by omega) (by have := N3.out; simp; omega) (w3.heap.size + 1) (by simp) ?_; intro gg cap w4 hown4 hg4 hat4 hlt4; have HOW4 := Lib.hid hown4; have HGR4 := Lib.hid hg4; have HAT4 := Lib.hid hat4; clear hown4 hg4 hat4 hlt4)
            | fail)
          obtain ⟨D2, hin2⟩ := HI.out.step PL.out (B := B) (cb := cb) (by rw [← HS.out]; exact H3.out) (by rw [← HS.out]; exact HR.out) HGR4.out (by rw [← HS.out]; exact HOW4.out) HAT4.out
          exact ⟨⟨j + 1, _, _, _, D2, by omega, by simp, rfl, hin2⟩, by simp [intOf]; omega⟩
        · have hk2 : ¬ (j : Int) < (m : Int) := by omega
          have e8 : j = m := by omega
          subst e8
          have HC := cells11 HI.out.box
          have c9 := HC.1
          have OWO := Lib.hid (own_bel HI.out.own (alb wr (.cells #[.slice A' j c'] 75)))
          have NWO := Lib.hid (World.news_of_block (cs := #[.slice A' j c']) (t := 75) (fr := (0, 0)) (heap_alloc_new wr (.cells #[.slice A' j c'] 75)))
          have NS := Lib.hid HI.out.blo
          have BX2 := Lib.hid (keep_bel (alb wr (.cells #[.slice A' j c'] 75)) HI.out.box)
          clear HC
          go_wp2_with (first
            | (at_builtin; refine wpList_append_lies _ rfl (.tmp 33) (.tmp 35) _ rfl (bx + 2) 75 i1 _ 1 24 Try.underlying50 hi1 hy0 hy1 hy2 rfl (by omega) (.slice A i c) i lo rfl OWO.out ⟨wr.heap.size, 0, none⟩ 1 1 [.slice A' j c'] rfl rfl NWO.out (by simp [Value.oneCell']) (by omega) (by simp only [maxLen]; omega) (by omega) (by have := NS.out; simp; omega) (wr.heap.size + 1) (by simp) ?_; intro gg cap w4 hown4 hg4 hat4 hlt4; have HOW4 := Lib.hid hown4; have HGR4 := Lib.hid hg4; have HAT4 := Lib.hid hat4; have BX4 := keep_grown hg4 BX2.out (fun e => by have := (OWO.out.lt bx e).1; omega); have q9 := (cells11 BX4).1; have q10 := (cells11 BX4).2.2.1; clear hown4 hg4 hat4 hlt4 BX4)
            | fail)
          obtain ⟨D3, hout⟩ := HI.out.done PL.out HGR4.out HOW4.out HAT4.out
          exact ⟨⟨i + 1, _, _, _, D3, by omega, by simp, hout⟩, by simp [intOf]; omega⟩
    · have hk1 : ¬ (i : Int) < (nn : Int) := by omega
      have e8 : i = nn := by omega
      subst e8
      have PKC := Lib.hid (PK.out wr (bx + 1) _ HO.out.src)
      clear PK CO CL
      have g1 := PL.out.gx
      have g2 := PL.out.gr
      have g3 := PL.out.xr
      have HG1 : Hid (¬ bx = bx + 1 ∧ ¬ w.heap.size = bx + 1 ∧ ¬ bx = w.heap.size) := Lib.hid ⟨by omega, fun e => g2 e.symm, g3⟩
      clear g1 g2 g3
      go_wp2_with (first
        | (go_at_call 29; ((with_reducible refine PKC.out.mono ?_); rintro e w6 ⟨P, cp, rfl, he, hr⟩; have H6 := Lib.hid he; have HR := Lib.hid hr; have BX6 := he.keep HG1.out.1 HO.out.box; have BX7 := Lib.hid (set_row10 (v' := .slice P np cp) BX6); have RB6 := he.keep HG1.out.2.1 HO.out.res; have RB7 := Lib.hid (keep_chg (Chg.set (D := fun x => x = bx) (o := 10) w6 (.slice P np cp) rfl) RB6 (fun e => HG1.out.2.2 e.symm)); have q10 := (cells11 BX6).2.1; have q11 := (cells11 BX6).2.2.2; clear he hr BX6 RB6))
        | (refine wpList_load_row rfl 53 (.tmp 9) rfl bx rfl 53 #[.int .i64 4, .int .i64 16, .int .i64 c2, .int .i64 c3, .int .i64 c4, .int .i64 c5, .int .i64 c6, .int .i64 c7, .int .i64 c8, .slice A i c, .slice P np cp] (0, 0) _ BX7.out Try.underlying53 rfl info53 ?_)
        | (refine wpList_store_row rfl 53 (.tmp 8) (.tmp 44) rfl w.heap.size #[.int .i64 4, .int .i64 16, .int .i64 c2, .int .i64 c3, .int .i64 c4, .int .i64 c5, .int .i64 c6, .int .i64 c7, .int .i64 c8, .slice A i c, .slice P np cp] rfl rfl 53 _ RB7.out info53 rfl (by simp [Value.oneCell']) ?_)
        | fail)
      have hfin := HO.out.finish PL.out H6.out HR.out (((Chg.set (D := fun x => x = bx) (o := 10) w6 (.slice P np cp) rfl).more (G := fun x => x = bx ∨ x = w.heap.size) (fun x hx => .inl (.inl hx))).trans (Chg.of_row _ w.heap.size #[.int .i64 4, .int .i64 16, .int .i64 c2, .int .i64 c3, .int .i64 c4, .int .i64 c5, .int .i64 c6, .int .i64 c7, .int .i64 c8, .slice A i c, .slice P np cp]) (fun x hx => .inl (.inr hx)))
      exact bodyPost_ret (v := .agg #[.int .i64 4, .int .i64 16, .int .i64 c2, .int .i64 c3, .int .i64 c4, .int .i64 c5, .int .i64 c6, .int .i64 c7, .int .i64 c8, .slice A i c, .slice P np cp]) (res53 rfl _ _ w.heap.size _ rfl (setRow_heap _ _ _ _ _ _ RB7.out) rfl) rfl ⟨A, c, P, cp, rfl, hfin⟩
end Go.Proofs.Ytnchpfmpjpnciaa
