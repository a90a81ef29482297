/- What ScriptFirst answers: the walk. -/
import Derived.Test.YtelpkajlejbbgaaGreatDoorTc01
import Derived.Test.YtelpkajlejbbgaaGreatDoorTc33
set_option linter.unusedVariables false
set_option linter.unusedSimpArgs false
namespace Go.Proofs.YtelpkajlejbbgaaGreatDoor
open Go.RowKit Go.Maps
set_option maxHeartbeats 2000000 in
set_option maxRecDepth 100000 in
theorem first_main {x : ScV} {w : World} {a0 a1 a2 a3 a4 a5 a6 a7 a8 : Int} {A : Option Addr} {n c : Nat} {B : Option Addr} {m d : Nat} (h : FK w x a0 a1 a2 a3 a4 a5 a6 a7 a8 A n c B m d) (p : Nat) (hp : p ≤ 255) (s : ByteArray) (hf : FewP x) (h60 : s.size ≤ 60) (hgd : GoodS x) (h4 : (prL x).length ≤ 4000) :
    Calls Tryz.prog 6 #[.agg #[.int .i64 a0, .int .i64 a1, .int .i64 a2, .int .i64 a3, .int .i64 a4, .int .i64 a5, .int .i64 a6, .int .i64 a7, .int .i64 a8, .slice A n c, .slice B m d], .int .u8 (p : Int), .string s] w fun e w' => e = .returned (.bool true) ∧ Below w.heap.size w w' := by
  have HLV := h.live
  obtain ⟨W1, hW1⟩ : ∃ W1, W1 = w.alloc (.cells #[.int .i64 a0, .int .i64 a1, .int .i64 a2, .int .i64 a3, .int .i64 a4, .int .i64 a5, .int .i64 a6, .int .i64 a7, .int .i64 a8, .slice A n c, .slice B m d] 27) := ⟨_, rfl⟩
  have B1 := Lib.hid (show Below w.heap.size w W1 by rw [hW1]; exact alb w _)
  have Z1 := Lib.hid (show W1.heap[w.heap.size]? = some (.cells #[.int .i64 a0, .int .i64 a1, .int .i64 a2, .int .i64 a3, .int .i64 a4, .int .i64 a5, .int .i64 a6, .int .i64 a7, .int .i64 a8, .slice A n c, .slice B m d] 27) by rw [hW1]; exact heap_alloc_new w _)
  obtain ⟨c0, c1, c2, c3, c4, c5, c6, c7, c8, c9, c10⟩ := cells11 Z1.out
  have HF := h.yes hf
  have k60 : ¬ (60 : Int) < (s.size : Int) := by omega
  have HPR := h.ok hf hgd
  have hpf := h.parse hf hgd
  have hcn := pr_count x
  obtain ⟨T, hT⟩ : ∃ T : ByteArray, T = ⟨(prL x).toArray⟩ := ⟨_, rfl⟩
  have hTL : prL x = T.data.toList := by rw [hT]
  rw [← hT] at HPR hpf
  rw [hTL] at hcn h4
  rw [ba_len] at h4
  have k4 : ¬ (4000 : Int) < (T.size : Int) := by omega
  have HPF := Lib.hid hpf
  have HGW := Lib.hid h.g
  have HS := Lib.hid (And.intro hcn (And.intro (show s.size ≤ 60 by omega) (show T.size ≤ 4000 by omega)))
  have HPP := Lib.hid hp
  clear h hf hp h60 hgd h4 hpf hcn hTL hT
  go_enter Tryz.func6, Tryz.ntmps6
  go_upto_region 1 with fail
  rw [← hW1]
  clear hW1
  go_upto_region 9 with (first
    | (go_at_call 8; ((with_reducible refine (HF.out _ B1.out).mono ?_); rintro e w2 ⟨rfl, b2⟩; have B2 := Lib.hid (bel_trans B1.out b2); obtain ⟨c0, c1, c2, c3, c4, c5, c6, c7, c8, c9, c10⟩ := cells11 (keep_bel b2 Z1.out); clear b2))
    | (go_at_call 11; ((with_reducible refine (HPR.out _ B2.out).mono ?_); rintro e w3 ⟨rfl, b3⟩; have B3 := Lib.hid (bel_trans B2.out b3); clear b3))
    | fail)
  clear k4 k60
  go_loopw [9, 10, 11] (fun lv fv iv wr => ∃ (i q : Nat) (l : List Int) (A2 : Option Addr) (c2' : Nat), i ≤ T.size ∧ iv = .int .i64 i ∧ lv = .int .i64 q ∧ fv = .slice A2 (q + 1) c2' ∧ Hid (StartsP T.data.toList i q l) ∧ Hid (EI.Row wr w3.heap.size A2 l c2') ∧ Below w3.heap.size w3 wr) (fun _ _ iv _ => T.size - (intOf iv).toNat)
  case atStart => exact ⟨0, 0, [0], some ⟨w3.heap.size, 0, none⟩, 1, by omega, rfl, rfl, rfl, Lib.hid (starts_zero _), Lib.hid (row_litI w3 0), alb w3 _⟩
  case round =>
    obtain ⟨i, q, l, A2, k2, hi, rfl, rfl, rfl, HST, HRW, hbw⟩ := hrel
    have HBW := Lib.hid hbw
    clear hbw
    have hS := HS.out.2.2
    have hqi : q ≤ i := by
      rw [← HST.out.2.1]
      exact Nat.le_trans List.count_le_length (by rw [List.length_take]; omega)
    by_cases h8 : i < T.size
    · have hk1 : (i : Int) < (T.size : Int) := by omega
      have hk0 : (0 : Int) ≤ (i : Int) := by omega
      have WK : IntKind.i64.wrap ((i : Int) + 1) = (i : Int) + 1 := IntWalk.i64_in _ (by omega)
      have WQ : IntKind.i64.wrap ((q : Int) + 1) = (q : Int) + 1 := IntWalk.i64_in _ (by omega)
      obtain ⟨y, hx⟩ : ∃ y, T.data.toList[i]? = some y := ⟨_, List.getElem?_eq_getElem (by rw [ba_len]; exact h8)⟩
      have hx2 : T[i]'h8 = y := by
        have q := (List.getElem?_eq_some_iff.1 hx).2
        rw [← q]; rfl
      have hx3 := y.toNat_lt
      by_cases hq : y = 10
      · subst hq
        have HST2 := Lib.hid (starts_nl HST.out hx)
        have h10 : ((10 : UInt8).toNat : Int) = 10 := rfl
        have RW := Lib.hid (HRW.out.later (alb wr (.cells #[.int .i64 ((i : Int) + 1)] 3)))
        have RV := Lib.hid (RE.Rd.lit (E := EI) wr 3 [(i : Int) + 1] #[.int .i64 ((i : Int) + 1)] rfl)
        have B5 := Lib.hid (bel_alloc HBW.out (.cells #[.int .i64 ((i : Int) + 1)] 3))
        have HK := Lib.hid HST.out.1
        have HK2 := Lib.hid (show q + 1 ≤ 1000000 by omega)
        clear hx hqi hS
        go_wp2_with (first
          | (at_builtin; refine RE.wpList_put EI _ rfl (.tmp 54) (.tmp 57) rfl (base := w3.heap.size) A2 (q + 1) k2 _ _ 1 1 [(i : Int) + 1] rfl rfl RW.out HK.out HK2.out B5.out.size rfl (by omega) RV.out ?_; intro A3 c3' w5 r1 r2 r3; have R1 := Lib.hid r1; have R2 := Lib.hid r2; clear r1 r2 r3)
          | fail)
        exact ⟨⟨i + 1, q + 1, _, A3, c3', by omega, by simp, by simp, rfl, HST2, R1, B5.out.trans (RE.Row.below R2.out RW.out (Nat.le_refl _) B5.out.size)⟩, by simp [intOf]; omega⟩
      · have HST2 := Lib.hid (starts_ot HST.out hx hq)
        have h10 : ¬ (y.toNat : Int) = 10 := fun e => hq (UInt8.toNat_inj.1 (by have : (10 : UInt8).toNat = 10 := rfl; omega))
        clear hx hqi hS
        go_wp2
        exact ⟨⟨i + 1, q, l, A2, k2, by omega, by simp, rfl, rfl, HST2, HRW, HBW.out⟩, by simp [intOf]; omega⟩
    · have hke : i = T.size := by omega
      have hk1 : ¬ (i : Int) < (T.size : Int) := by omega
      have hq1 : 1 ≤ q := by
        have h1 := HS.out.1
        have h2 := HST.out.2.1
        rw [List.take_of_length_le (by rw [ba_len]; omega)] at h2
        omega
      have hST := HST.out
      rw [hke, ← ba_len] at hST
      have hpp := HPP.out
      obtain ⟨kk, hkk⟩ : ∃ kk, p % q = kk := ⟨_, rfl⟩
      have hkq : kk < q := by rw [← hkk]; exact Nat.mod_lt _ (by omega)
      obtain ⟨a, b, ha, hb, haT, hbT, hwh, hcnt⟩ := starts_end hST hkq
      obtain ⟨P1, hP1⟩ : ∃ P1, T.extract 0 a = P1 := ⟨_, rfl⟩
      obtain ⟨P2, hP2⟩ : ∃ P2, T.extract b T.size = P2 := ⟨_, rfl⟩
      have e1 : P1.data.toList = T.data.toList.take a := by rw [← hP1]; exact take_of_extract T a
      have e2 : P2.data.toList = T.data.toList.drop b := by rw [← hP2]; exact drop_of_extract T b
      have h4k : T.data.toList.length ≤ 4000 := by rw [ba_len]; exact HS.out.2.2
      have z1 : P1.size ≤ 4000 := by rw [← ba_len, e1, List.length_take]; omega
      have z2 : P2.size ≤ 4000 := by rw [← ba_len, e2, List.length_drop, ba_len]; omega
      have hsz := HS.out.2.1
      have hTT : (⟨T.data.toList.toArray⟩ : ByteArray) = T := ba_inj (by rw [ba_list])
      have hpf : parseF ⟨T.data.toList.toArray⟩ = .ok x := by rw [hTT]; exact HPF.out
      obtain ⟨ln, er, hq, hPA⟩ := parse_cut hpf haT hwh ((s.data.toList ++ [10]) ++ P2.data.toList) (by simp only [List.length_append, List.length_take, List.length_cons, List.length_nil, ba_len]; omega)
      obtain ⟨l2, r2, hq2, hPB⟩ := parse_cut hpf haT hwh [] (by simp only [List.length_append, List.length_take, List.length_nil]; omega)
      have s1 : (⟨(T.data.toList.take a ++ ((s.data.toList ++ [10]) ++ P2.data.toList)).toArray⟩ : ByteArray) = ((P1 ++ s) ++ ⟨#[10]⟩) ++ P2 := ba_inj (by rw [ba_list, ba_app, ba_app, ba_app, e1]; simp)
      have s2 : (⟨(T.data.toList.take a ++ []).toArray⟩ : ByteArray) = P1 := ba_inj (by rw [ba_list, e1]; simp)
      rw [s1] at hPA
      rw [s2] at hPB
      rw [hcnt] at hq hq2
      have hq2' : l2 = (kk : Int) + 1 ∧ r2 = 5 := by
        rcases hq2 with ⟨_, _, h⟩ | ⟨_, _, h⟩
        · exact absurd rfl h
        · exact h rfl
      obtain ⟨rfl, rfl⟩ := hq2'
      have HQ : Hid ((ln = 0 ∧ er = 0) ∨ ((kk : Int) + 1 ≤ ln ∧ ¬ er = 0)) := Lib.hid (by
        rcases hq with ⟨h1, h2, _⟩ | ⟨h1, h2, _⟩
        · exact .inl ⟨h1, h2⟩
        · exact .inr ⟨h1, h2⟩)
      have HPA := Lib.hid (fun W (hb : Below w.heap.size w W) => hPA W (HGW.out.later hb))
      have HPB := Lib.hid (fun W (hb : Below w.heap.size w W) => hPB W (HGW.out.later hb))
      obtain ⟨b3, off, hA2, hlt, g0⟩ := ei_at HRW.out.rd ha
      obtain ⟨b4, off4, hA4, hlt4, g1⟩ := ei_at HRW.out.rd hb
      rw [hA2] at hA4
      injection hA4 with hA4
      injection hA4 with hA5 hA6 hA7
      subst hA5 hA6 hA2
      have B9 := Lib.hid (bel_trans B3.out HBW.out)
      have ek : (p : Int).tmod (q : Int) = (kk : Int) := by rw [Int.tmod_eq_emod_of_nonneg (by omega)]; omega
      have wp : IntKind.i64.wrap (p : Int) = (p : Int) := IntWalk.i64_in _ (by omega)
      have wk : IntKind.i64.wrap (kk : Int) = (kk : Int) := IntWalk.i64_in _ (by omega)
      have wk1 : IntKind.i64.wrap ((kk : Int) + 1) = (kk : Int) + 1 := IntWalk.i64_in _ (by omega)
      have q0 : ¬ (q : Int) = 0 := by omega
      have q01 : ¬ q = 0 := by omega
      have qk0 : (0 : Int) ≤ (kk : Int) := by omega
      have qk1 : (kk : Int) < (q : Int) + 1 := by omega
      have qk2 : (0 : Int) ≤ (kk : Int) + 1 := by omega
      have qk3 : (kk : Int) + 1 < (q : Int) + 1 := by omega
      have qk4 : kk < q := hkq
      have qk5 : kk < q + 1 := by omega
      have ea0 : (0 : Int) ≤ (a : Int) := by omega
      have ea1 : (a : Int) ≤ (T.size : Int) := by rw [ba_len] at haT; omega
      have eb0 : (0 : Int) ≤ (b : Int) := by omega
      have eb1 : (b : Int) ≤ (T.size : Int) := by rw [ba_len] at hbT; omega
      have ea2 : a ≤ T.size := by omega
      have eb2 : b ≤ T.size := by omega
      have y1 : ¬ 9223372036854775807 < P1.size + s.size := by omega
      have y2 : ¬ 9223372036854775807 < P1.size + s.size + 1 := by omega
      have y3 : ¬ 9223372036854775807 < P1.size + s.size + 1 + P2.size := by omega
      have HG0 := Lib.hid g0
      have HG1 := Lib.hid g1
      have HP1 := Lib.hid hP1
      have HP2 := Lib.hid hP2
      clear hST ha hb haT hbT hwh hcnt e1 e2 z1 z2 hsz hTT hpf hq hPA hPB s1 s2 hq2 hlt hlt4 hkk hke hq1 hkq hpp hqi hS g0 g1 hP2
      obtain ⟨w9, hw9⟩ : ∃ w9, w9 = wr := ⟨_, rfl⟩
      subst hw9
      go_upto_region 15 with fail
      refine wp_region_held_drew (S := (fun V : World => Below w9.heap.size w9 V)) (by kernel_rfl) ?_ (fun hHeld => ?_)
      · exact (Below.refl _ w9).drew
      have HHeld := Lib.hid hHeld; clear hHeld
      refine wT (i := 0) (oi := { dst := some 64, op := Op.move (Operand.tmp 7), type := 9, pos := "law.go:104", after := #[], guard := none }) (v := ?_) rfl (Or.inl ⟨by rfl, ?_⟩) HHeld.out ?_
      rotate_left
      · intro w hSw; clear hSw; go_simp; try with_reducible rfl
      try simp only [pu, pn, s1, s2, s3]
      refine wT (i := 1) (oi := { dst := some 65, op := Op.move (Operand.tmp 10), type := 25, pos := "law.go:104", after := #[], guard := none }) (v := ?_) rfl (Or.inl ⟨by rfl, ?_⟩) HHeld.out ?_
      rotate_left
      · intro w hSw; clear hSw; go_simp; try with_reducible rfl
      try simp only [pu, pn, s1, s2, s3]
      refine wT (i := 2) (oi := { dst := some 66, op := Op.move (Operand.tmp 12), type := 3, pos := "law.go:104", after := #[], guard := none }) (v := ?_) rfl (Or.inl ⟨by rfl, ?_⟩) HHeld.out ?_
      rotate_left
      · intro w hSw; clear hSw; go_simp; try with_reducible rfl
      try simp only [pu, pn, s1, s2, s3]
      refine wT (i := 3) (oi := { dst := some 67, op := Op.indexAddr 25 (Operand.tmp 65) (Operand.tmp 66), type := 0, pos := "law.go:104", after := #[{ on := 1, ground := Ground.data }, { on := 2, ground := Ground.data }], guard := none }) (v := ?_) rfl (Or.inl ⟨by rfl, ?_⟩) HHeld.out ?_
      rotate_left
      · intro w hSw; clear hSw; go_simp; try with_reducible rfl
      try simp only [pu, pn, s1, s2, s3]
      refine wT (i := 4) (oi := { dst := some 68, op := Op.load 3 (Operand.tmp 67), type := 3, pos := "law.go:104", after := #[{ on := 3, ground := Ground.data }], guard := none }) (v := (.int .i64 (a : Int) : Value)) rfl (Or.inl ⟨by rfl, ?_⟩) HHeld.out ?_
      · intro V hV; have hc0 := bel_later hV HG0.out; clear hV; go_simp
      try simp only [pu, pn, s1, s2, s3]
      refine wT (i := 5) (oi := { dst := some 69, op := Op.slice 9 (Operand.tmp 64) none (some (Operand.tmp 68)) none, type := 9, pos := "law.go:104", after := #[{ on := 0, ground := Ground.data }, { on := 4, ground := Ground.data }], guard := none }) (v := (.string P1 : Value)) rfl (Or.inl ⟨by rfl, ?_⟩) HHeld.out ?_
      · intro V hV; have hc0 := HP1.out; clear hV; go_simp
      try simp only [pu, pn, s1, s2, s3]
      refine wT (i := 6) (oi := { dst := some 70, op := Op.move (Operand.tmp 2), type := 9, pos := "law.go:104", after := #[], guard := none }) (v := ?_) rfl (Or.inl ⟨by rfl, ?_⟩) HHeld.out ?_
      rotate_left
      · intro w hSw; clear hSw; go_simp; try with_reducible rfl
      try simp only [pu, pn, s1, s2, s3]
      refine wT (i := 7) (oi := { dst := some 71, op := Op.binOp BinOp.add 9 (Operand.tmp 69) (Operand.tmp 70) 9, type := 9, pos := "law.go:104", after := #[{ on := 5, ground := Ground.data }, { on := 6, ground := Ground.data }], guard := none }) (v := ?_) rfl (Or.inl ⟨by rfl, ?_⟩) HHeld.out ?_
      rotate_left
      · intro w hSw; clear hSw; go_simp; try with_reducible rfl
      try simp only [pu, pn, s1, s2, s3]
      refine wT (i := 8) (oi := { dst := some 72, op := Op.binOp BinOp.add 9 (Operand.tmp 71) (Operand.const (Value.string { data := #[10] })) 9, type := 9, pos := "law.go:104", after := #[{ on := 7, ground := Ground.data }], guard := none }) (v := ?_) rfl (Or.inl ⟨by rfl, ?_⟩) HHeld.out ?_
      rotate_left
      · intro w hSw; clear hSw; go_simp; try with_reducible rfl
      try simp only [pu, pn, s1, s2, s3]
      refine wT (i := 9) (oi := { dst := some 73, op := Op.move (Operand.tmp 7), type := 9, pos := "law.go:104", after := #[], guard := none }) (v := ?_) rfl (Or.inl ⟨by rfl, ?_⟩) HHeld.out ?_
      rotate_left
      · intro w hSw; clear hSw; go_simp; try with_reducible rfl
      try simp only [pu, pn, s1, s2, s3]
      refine wT (i := 10) (oi := { dst := some 74, op := Op.move (Operand.tmp 10), type := 25, pos := "law.go:104", after := #[], guard := none }) (v := ?_) rfl (Or.inl ⟨by rfl, ?_⟩) HHeld.out ?_
      rotate_left
      · intro w hSw; clear hSw; go_simp; try with_reducible rfl
      try simp only [pu, pn, s1, s2, s3]
      refine wT (i := 11) (oi := { dst := some 75, op := Op.move (Operand.tmp 12), type := 3, pos := "law.go:104", after := #[], guard := none }) (v := ?_) rfl (Or.inl ⟨by rfl, ?_⟩) HHeld.out ?_
      rotate_left
      · intro w hSw; clear hSw; go_simp; try with_reducible rfl
      try simp only [pu, pn, s1, s2, s3]
      refine wT (i := 12) (oi := { dst := some 76, op := Op.binOp BinOp.add 3 (Operand.tmp 75) (Operand.const (Value.int IntKind.i64 1)) 3, type := 3, pos := "law.go:104", after := #[{ on := 11, ground := Ground.data }], guard := none }) (v := ?_) rfl (Or.inl ⟨by rfl, ?_⟩) HHeld.out ?_
      rotate_left
      · intro w hSw; clear hSw; go_simp; try with_reducible rfl
      try simp only [pu, pn, s1, s2, s3]
      refine wT (i := 13) (oi := { dst := some 77, op := Op.indexAddr 25 (Operand.tmp 74) (Operand.tmp 76), type := 0, pos := "law.go:104", after := #[{ on := 10, ground := Ground.data }, { on := 12, ground := Ground.data }], guard := none }) (v := ?_) rfl (Or.inl ⟨by rfl, ?_⟩) HHeld.out ?_
      rotate_left
      · intro w hSw; clear hSw; go_simp; try with_reducible rfl
      try simp only [pu, pn, s1, s2, s3]
      refine wT (i := 14) (oi := { dst := some 78, op := Op.load 3 (Operand.tmp 77), type := 3, pos := "law.go:104", after := #[{ on := 13, ground := Ground.data }], guard := none }) (v := (.int .i64 (b : Int) : Value)) rfl (Or.inl ⟨by rfl, ?_⟩) HHeld.out ?_
      · intro V hV; have hc0 := bel_later hV HG1.out; clear hV; go_simp
      try simp only [pu, pn, s1, s2, s3]
      refine wT (i := 15) (oi := { dst := some 79, op := Op.slice 9 (Operand.tmp 73) (some (Operand.tmp 78)) none none, type := 9, pos := "law.go:104", after := #[{ on := 9, ground := Ground.data }, { on := 14, ground := Ground.data }], guard := none }) (v := (.string P2 : Value)) rfl (Or.inl ⟨by rfl, ?_⟩) HHeld.out ?_
      · intro V hV; have hc0 := HP2.out; clear hV; go_simp
      try simp only [pu, pn, s1, s2, s3]
      refine wT (i := 16) (oi := { dst := some 80, op := Op.binOp BinOp.add 9 (Operand.tmp 72) (Operand.tmp 79) 9, type := 9, pos := "law.go:104", after := #[{ on := 8, ground := Ground.data }, { on := 15, ground := Ground.data }], guard := none }) (v := ?_) rfl (Or.inl ⟨by rfl, ?_⟩) HHeld.out ?_
      rotate_left
      · intro w hSw; clear hSw; go_simp; try with_reducible rfl
      try simp only [pu, pn, s1, s2, s3]
      refine wpAnyH_ready (rs := [17, 22]) (by kernel_rfl) (by simp) ?_
      refine AllReadyH.cons (o := { dst := some 81, op := Op.call { callee := Callee.value (Operand.func 16), args := #[Operand.tmp 80], argTypes := #[9] }, type := 36, pos := "law.go:104", after := #[{ on := 16, ground := Ground.data }], guard := none }) rfl (fun K hK => ?_) (AllReadyH.cons (o := { dst := some 13, op := Op.alloc 27, type := 0, pos := "law.go:104", after := #[], guard := none }) rfl (fun K hK => ?_) AllReadyH.nil)
      · go_simp
        (go_at_call 16; ((with_reducible refine (HPA.out _ (bel_trans B9.out HHeld.out)).mono ?_); rintro e w4 ⟨e0, e1, e2, e3, e4, e5, e6, e7, e8, A5, n5, c5, B5, m5, d5, rfl, b4⟩; have B4 := Lib.hid (HHeld.out.trans (b4.mono HHeld.out.size)); clear b4))
        refine hK.out _ _ ?_ (fun hHeld => ?_)
        · exact B4.out
        clear HHeld; have HHeld := Lib.hid hHeld; clear hHeld
        clear hK K
        try simp only [pu, pn, s1, s2, s3]
        refine wT (i := 18) (oi := { dst := some 63, op := Op.move (Operand.tmp 81), type := 36, pos := "law.go:104", after := #[{ on := 17, ground := Ground.data }], guard := none }) (v := ?_) rfl (Or.inl ⟨by rfl, ?_⟩) HHeld.out ?_
        rotate_left
        · intro w hSw; clear hSw; go_simp; try with_reducible rfl
        try simp only [pu, pn, s1, s2, s3]
        refine wT (i := 19) (oi := { dst := some 82, op := Op.extract (Operand.tmp 63) 0, type := 27, pos := "law.go:104", after := #[{ on := 18, ground := Ground.data }], guard := none }) (v := ?_) rfl (Or.inl ⟨by rfl, ?_⟩) HHeld.out ?_
        rotate_left
        · intro w hSw; clear hSw; go_simp; try with_reducible rfl
        try simp only [pu, pn, s1, s2, s3]
        refine wT (i := 20) (oi := { dst := some 83, op := Op.extract (Operand.tmp 63) 1, type := 3, pos := "law.go:104", after := #[{ on := 18, ground := Ground.data }, { on := 23, ground := Ground.gcOnly Departure.lateStores }], guard := none }) (v := ?_) rfl (Or.inl ⟨by rfl, ?_⟩) HHeld.out ?_
        rotate_left
        · intro w hSw; clear hSw; go_simp; try with_reducible rfl
        try simp only [pu, pn, s1, s2, s3]
        refine wT (i := 21) (oi := { dst := some 84, op := Op.extract (Operand.tmp 63) 2, type := 30, pos := "law.go:104", after := #[{ on := 18, ground := Ground.data }, { on := 24, ground := Ground.gcOnly Departure.lateStores }], guard := none }) (v := ?_) rfl (Or.inl ⟨by rfl, ?_⟩) HHeld.out ?_
        rotate_left
        · intro w hSw; clear hSw; go_simp; try with_reducible rfl
        try simp only [pu, pn, s1, s2, s3]
        refine wpAnyH_ready (rs := [22]) (by kernel_rfl) (by simp) ?_
        refine AllReadyH.cons (o := { dst := some 13, op := Op.alloc 27, type := 0, pos := "law.go:104", after := #[], guard := none }) rfl (fun K hK => ?_) AllReadyH.nil
        go_simp
        refine hK.out _ _ ?_ (fun hHeld => ?_)
        · exact bel_alloc HHeld.out _
        clear HHeld; have HHeld := Lib.hid hHeld; clear hHeld
        clear hK K
        try simp only [pu, pn, s1, s2, s3]
        refine wpAnyH_ready (rs := [23]) (by kernel_rfl) (by simp) ?_
        refine AllReadyH.cons (o := { dst := none, op := Op.store 27 (Operand.tmp 13) (Operand.tmp 82), type := 0, pos := "law.go:104", after := #[{ on := 22, ground := Ground.data }, { on := 19, ground := Ground.data }, { on := 17, ground := Ground.chain }, { on := 0, ground := Ground.phase }, { on := 1, ground := Ground.phase }, { on := 2, ground := Ground.phase }, { on := 3, ground := Ground.phase }, { on := 4, ground := Ground.phase }, { on := 5, ground := Ground.phase }, { on := 6, ground := Ground.phase }, { on := 7, ground := Ground.phase }, { on := 8, ground := Ground.phase }, { on := 9, ground := Ground.phase }, { on := 10, ground := Ground.phase }, { on := 11, ground := Ground.phase }, { on := 12, ground := Ground.phase }, { on := 13, ground := Ground.phase }, { on := 14, ground := Ground.phase }, { on := 15, ground := Ground.phase }, { on := 16, ground := Ground.phase }, { on := 17, ground := Ground.phase }, { on := 18, ground := Ground.phase }, { on := 19, ground := Ground.phase }, { on := 20, ground := Ground.textOnly Departure.lateStores }, { on := 21, ground := Ground.textOnly Departure.lateStores }, { on := 22, ground := Ground.phase }], guard := none }) rfl (fun K hK => ?_) AllReadyH.nil
        have Z5 : Hid ((w4.alloc (.cells #[.int .i64 0, .int .i64 0, .int .i64 0, .int .i64 0, .int .i64 0, .int .i64 0, .int .i64 0, .int .i64 0, .int .i64 0, .slice none 0 0, .slice none 0 0] 27)).heap[w4.heap.size]? = some (.cells #[.int .i64 0, .int .i64 0, .int .i64 0, .int .i64 0, .int .i64 0, .int .i64 0, .int .i64 0, .int .i64 0, .int .i64 0, .slice none 0 0, .slice none 0 0] 27)) := Lib.hid (heap_alloc_new w4 _)
        obtain ⟨k0, k1, k2, k3, k4, k5, k6, k7, k8, k9, k10⟩ := cells11 Z5.out
        obtain ⟨f0, f1, f2, f3, f4, f5, f6, f7, f8, f9, f10⟩ := froz11 Z5.out
        go_simp
        clear k0 k1 k2 k3 k4 k5 k6 k7 k8 k9 k10 f0 f1 f2 f3 f4 f5 f6 f7 f8 f9 f10
        refine hK.out _ _ ?_ (fun hHeld => ?_)
        · exact bel_alloc B4.out _
        clear HHeld; have HHeld := Lib.hid hHeld; clear hHeld
        clear hK K
        try simp only [pu, pn, s1, s2, s3]
        refine wT (i := 24) (oi := { dst := some 14, op := Op.assign (Operand.tmp 83), type := 3, pos := "law.go:104", after := #[{ on := 20, ground := Ground.data }, { on := 23, ground := Ground.chain }, { on := 0, ground := Ground.phase }, { on := 1, ground := Ground.phase }, { on := 2, ground := Ground.phase }, { on := 3, ground := Ground.phase }, { on := 4, ground := Ground.phase }, { on := 5, ground := Ground.phase }, { on := 6, ground := Ground.phase }, { on := 7, ground := Ground.phase }, { on := 8, ground := Ground.phase }, { on := 9, ground := Ground.phase }, { on := 10, ground := Ground.phase }, { on := 11, ground := Ground.phase }, { on := 12, ground := Ground.phase }, { on := 13, ground := Ground.phase }, { on := 14, ground := Ground.phase }, { on := 15, ground := Ground.phase }, { on := 16, ground := Ground.phase }, { on := 17, ground := Ground.phase }, { on := 18, ground := Ground.phase }, { on := 19, ground := Ground.phase }, { on := 20, ground := Ground.phase }, { on := 21, ground := Ground.textOnly Departure.lateStores }, { on := 22, ground := Ground.phase }, { on := 23, ground := Ground.phase }], guard := none }) (v := ?_) rfl (Or.inl ⟨by rfl, ?_⟩) HHeld.out ?_
        rotate_left
        · intro w hSw; clear hSw; go_simp; try with_reducible rfl
        try simp only [pu, pn, s1, s2, s3]
        refine wT (i := 25) (oi := { dst := some 15, op := Op.assign (Operand.tmp 84), type := 30, pos := "law.go:104", after := #[{ on := 21, ground := Ground.data }, { on := 24, ground := Ground.chain }, { on := 0, ground := Ground.phase }, { on := 1, ground := Ground.phase }, { on := 2, ground := Ground.phase }, { on := 3, ground := Ground.phase }, { on := 4, ground := Ground.phase }, { on := 5, ground := Ground.phase }, { on := 6, ground := Ground.phase }, { on := 7, ground := Ground.phase }, { on := 8, ground := Ground.phase }, { on := 9, ground := Ground.phase }, { on := 10, ground := Ground.phase }, { on := 11, ground := Ground.phase }, { on := 12, ground := Ground.phase }, { on := 13, ground := Ground.phase }, { on := 14, ground := Ground.phase }, { on := 15, ground := Ground.phase }, { on := 16, ground := Ground.phase }, { on := 17, ground := Ground.phase }, { on := 18, ground := Ground.phase }, { on := 19, ground := Ground.phase }, { on := 20, ground := Ground.phase }, { on := 21, ground := Ground.phase }, { on := 22, ground := Ground.phase }, { on := 23, ground := Ground.phase }, { on := 24, ground := Ground.phase }], guard := none }) (v := ?_) rfl (Or.inl ⟨by rfl, ?_⟩) HHeld.out ?_
        rotate_left
        · intro w hSw; clear hSw; go_simp; try with_reducible rfl
        try simp only [pu, pn, s1, s2, s3]
        refine wpAnyH_done (by kernel_rfl) ?_ _
        obtain ⟨V, hV⟩ : ∃ V, V = w4.alloc (.cells #[.int .i64 e0, .int .i64 e1, .int .i64 e2, .int .i64 e3, .int .i64 e4, .int .i64 e5, .int .i64 e6, .int .i64 e7, .int .i64 e8, .slice A5 n5 c5, .slice B5 m5 d5] 27) := ⟨_, rfl⟩
        rw [← hV] at HHeld ⊢
        have BV := Lib.hid HHeld.out
        clear hV HHeld
        have g0 := bel_later BV.out HG0.out
        go_upto_region 17 with (first
          | (go_at_call 16; ((with_reducible refine (HPB.out _ (bel_trans B9.out BV.out)).mono ?_); rintro e w6 ⟨j0, j1, j2, j3, j4, j5, j6, j7, j8, A7, n7, c7, B7', m7, d7, rfl, b6⟩; have B6 := Lib.hid ((bel_trans B9.out BV.out).trans (b6.mono (bel_trans B9.out BV.out).size)); clear b6))
          | fail)
        obtain ⟨W7, hW7⟩ : ∃ W7, W7 = w6.alloc (.cells #[.int .i64 j0, .int .i64 j1, .int .i64 j2, .int .i64 j3, .int .i64 j4, .int .i64 j5, .int .i64 j6, .int .i64 j7, .int .i64 j8, .slice A7 n7 c7, .slice B7' m7 d7] 27) := ⟨_, rfl⟩
        have B7 := Lib.hid (show Below w.heap.size w W7 by rw [hW7]; exact bel_alloc B6.out _)
        rw [← hW7]
        clear hW7 g0
        rcases HQ.out with ⟨rfl, rfl⟩ | ⟨hq1, hq2⟩
        · have kk0 : ((0 : Int) == 0) = true := rfl
          go_wp2_with (first
            | (go_at_call 9; ((refine (HLV.out _ B7.out).mono ?_); rintro e w8 ⟨rfl, b8⟩; have B8 := Lib.hid (bel_trans B7.out b8); clear b8))
            | fail)
          exact bodyPost_ret (v := .bool true) (by simp [results, Tryz.results6, go_sem]) rfl ⟨rfl, B8.out⟩
        · have hq3 : ¬ ln < (kk : Int) + 1 := by omega
          have hq4 : (er == 0) = false := by simpa using hq2
          go_wp2_with (first
            | (go_at_call 9; ((refine (HLV.out _ B7.out).mono ?_); rintro e w8 ⟨rfl, b8⟩; have B8 := Lib.hid (bel_trans B7.out b8); clear b8))
            | fail)
          exact bodyPost_ret (v := .bool true) (by simp [results, Tryz.results6, go_sem, hq2]) rfl ⟨rfl, B8.out⟩
      · go_simp
        refine hK.out _ _ ?_ (fun hHeld => ?_)
        · exact bel_alloc HHeld.out _
        clear HHeld; have HHeld := Lib.hid hHeld; clear hHeld
        clear hK K
        try simp only [pu, pn, s1, s2, s3]
        refine wpAnyH_ready (rs := [17]) (by kernel_rfl) (by simp) ?_
        refine AllReadyH.cons (o := { dst := some 81, op := Op.call { callee := Callee.value (Operand.func 16), args := #[Operand.tmp 80], argTypes := #[9] }, type := 36, pos := "law.go:104", after := #[{ on := 16, ground := Ground.data }], guard := none }) rfl (fun K hK => ?_) AllReadyH.nil
        go_simp
        (go_at_call 16; ((with_reducible refine (HPA.out _ (bel_trans B9.out HHeld.out)).mono ?_); rintro e w4 ⟨e0, e1, e2, e3, e4, e5, e6, e7, e8, A5, n5, c5, B5, m5, d5, rfl, b4⟩; have Z4 : Hid (w4.heap[w9.heap.size]? = some (.cells #[.int .i64 0, .int .i64 0, .int .i64 0, .int .i64 0, .int .i64 0, .int .i64 0, .int .i64 0, .int .i64 0, .int .i64 0, .slice none 0 0, .slice none 0 0] 27)) := Lib.hid (keep_bel b4 (heap_alloc_new _ _)); have B4 := Lib.hid (HHeld.out.trans (b4.mono HHeld.out.size)); clear b4))
        refine hK.out _ _ ?_ (fun hHeld => ?_)
        · exact B4.out
        clear HHeld; have HHeld := Lib.hid hHeld; clear hHeld
        clear hK K
        try simp only [pu, pn, s1, s2, s3]
        refine wT (i := 18) (oi := { dst := some 63, op := Op.move (Operand.tmp 81), type := 36, pos := "law.go:104", after := #[{ on := 17, ground := Ground.data }], guard := none }) (v := ?_) rfl (Or.inl ⟨by rfl, ?_⟩) HHeld.out ?_
        rotate_left
        · intro w hSw; clear hSw; go_simp; try with_reducible rfl
        try simp only [pu, pn, s1, s2, s3]
        refine wT (i := 19) (oi := { dst := some 82, op := Op.extract (Operand.tmp 63) 0, type := 27, pos := "law.go:104", after := #[{ on := 18, ground := Ground.data }], guard := none }) (v := ?_) rfl (Or.inl ⟨by rfl, ?_⟩) HHeld.out ?_
        rotate_left
        · intro w hSw; clear hSw; go_simp; try with_reducible rfl
        try simp only [pu, pn, s1, s2, s3]
        refine wT (i := 20) (oi := { dst := some 83, op := Op.extract (Operand.tmp 63) 1, type := 3, pos := "law.go:104", after := #[{ on := 18, ground := Ground.data }, { on := 23, ground := Ground.gcOnly Departure.lateStores }], guard := none }) (v := ?_) rfl (Or.inl ⟨by rfl, ?_⟩) HHeld.out ?_
        rotate_left
        · intro w hSw; clear hSw; go_simp; try with_reducible rfl
        try simp only [pu, pn, s1, s2, s3]
        refine wT (i := 21) (oi := { dst := some 84, op := Op.extract (Operand.tmp 63) 2, type := 30, pos := "law.go:104", after := #[{ on := 18, ground := Ground.data }, { on := 24, ground := Ground.gcOnly Departure.lateStores }], guard := none }) (v := ?_) rfl (Or.inl ⟨by rfl, ?_⟩) HHeld.out ?_
        rotate_left
        · intro w hSw; clear hSw; go_simp; try with_reducible rfl
        try simp only [pu, pn, s1, s2, s3]
        refine wpAnyH_ready (rs := [23]) (by kernel_rfl) (by simp) ?_
        refine AllReadyH.cons (o := { dst := none, op := Op.store 27 (Operand.tmp 13) (Operand.tmp 82), type := 0, pos := "law.go:104", after := #[{ on := 22, ground := Ground.data }, { on := 19, ground := Ground.data }, { on := 17, ground := Ground.chain }, { on := 0, ground := Ground.phase }, { on := 1, ground := Ground.phase }, { on := 2, ground := Ground.phase }, { on := 3, ground := Ground.phase }, { on := 4, ground := Ground.phase }, { on := 5, ground := Ground.phase }, { on := 6, ground := Ground.phase }, { on := 7, ground := Ground.phase }, { on := 8, ground := Ground.phase }, { on := 9, ground := Ground.phase }, { on := 10, ground := Ground.phase }, { on := 11, ground := Ground.phase }, { on := 12, ground := Ground.phase }, { on := 13, ground := Ground.phase }, { on := 14, ground := Ground.phase }, { on := 15, ground := Ground.phase }, { on := 16, ground := Ground.phase }, { on := 17, ground := Ground.phase }, { on := 18, ground := Ground.phase }, { on := 19, ground := Ground.phase }, { on := 20, ground := Ground.textOnly Departure.lateStores }, { on := 21, ground := Ground.textOnly Departure.lateStores }, { on := 22, ground := Ground.phase }], guard := none }) rfl (fun K hK => ?_) AllReadyH.nil
        obtain ⟨k0, k1, k2, k3, k4, k5, k6, k7, k8, k9, k10⟩ := cells11 Z4.out
        obtain ⟨f0, f1, f2, f3, f4, f5, f6, f7, f8, f9, f10⟩ := froz11 Z4.out
        go_simp
        clear k0 k1 k2 k3 k4 k5 k6 k7 k8 k9 k10 f0 f1 f2 f3 f4 f5 f6 f7 f8 f9 f10
        refine hK.out _ _ ?_ (fun hHeld => ?_)
        · exact HHeld.out.trans ((set11of Z4.out (.int .i64 e0) (.int .i64 e1) (.int .i64 e2) (.int .i64 e3) (.int .i64 e4) (.int .i64 e5) (.int .i64 e6) (.int .i64 e7) (.int .i64 e8) (.slice A5 n5 c5) (.slice B5 m5 d5)).2.below (fun x e => by omega) HHeld.out.size)
        clear HHeld; have HHeld := Lib.hid hHeld; clear hHeld
        clear hK K
        try simp only [pu, pn, s1, s2, s3]
        refine wT (i := 24) (oi := { dst := some 14, op := Op.assign (Operand.tmp 83), type := 3, pos := "law.go:104", after := #[{ on := 20, ground := Ground.data }, { on := 23, ground := Ground.chain }, { on := 0, ground := Ground.phase }, { on := 1, ground := Ground.phase }, { on := 2, ground := Ground.phase }, { on := 3, ground := Ground.phase }, { on := 4, ground := Ground.phase }, { on := 5, ground := Ground.phase }, { on := 6, ground := Ground.phase }, { on := 7, ground := Ground.phase }, { on := 8, ground := Ground.phase }, { on := 9, ground := Ground.phase }, { on := 10, ground := Ground.phase }, { on := 11, ground := Ground.phase }, { on := 12, ground := Ground.phase }, { on := 13, ground := Ground.phase }, { on := 14, ground := Ground.phase }, { on := 15, ground := Ground.phase }, { on := 16, ground := Ground.phase }, { on := 17, ground := Ground.phase }, { on := 18, ground := Ground.phase }, { on := 19, ground := Ground.phase }, { on := 20, ground := Ground.phase }, { on := 21, ground := Ground.textOnly Departure.lateStores }, { on := 22, ground := Ground.phase }, { on := 23, ground := Ground.phase }], guard := none }) (v := ?_) rfl (Or.inl ⟨by rfl, ?_⟩) HHeld.out ?_
        rotate_left
        · intro w hSw; clear hSw; go_simp; try with_reducible rfl
        try simp only [pu, pn, s1, s2, s3]
        refine wT (i := 25) (oi := { dst := some 15, op := Op.assign (Operand.tmp 84), type := 30, pos := "law.go:104", after := #[{ on := 21, ground := Ground.data }, { on := 24, ground := Ground.chain }, { on := 0, ground := Ground.phase }, { on := 1, ground := Ground.phase }, { on := 2, ground := Ground.phase }, { on := 3, ground := Ground.phase }, { on := 4, ground := Ground.phase }, { on := 5, ground := Ground.phase }, { on := 6, ground := Ground.phase }, { on := 7, ground := Ground.phase }, { on := 8, ground := Ground.phase }, { on := 9, ground := Ground.phase }, { on := 10, ground := Ground.phase }, { on := 11, ground := Ground.phase }, { on := 12, ground := Ground.phase }, { on := 13, ground := Ground.phase }, { on := 14, ground := Ground.phase }, { on := 15, ground := Ground.phase }, { on := 16, ground := Ground.phase }, { on := 17, ground := Ground.phase }, { on := 18, ground := Ground.phase }, { on := 19, ground := Ground.phase }, { on := 20, ground := Ground.phase }, { on := 21, ground := Ground.phase }, { on := 22, ground := Ground.phase }, { on := 23, ground := Ground.phase }, { on := 24, ground := Ground.phase }], guard := none }) (v := ?_) rfl (Or.inl ⟨by rfl, ?_⟩) HHeld.out ?_
        rotate_left
        · intro w hSw; clear hSw; go_simp; try with_reducible rfl
        try simp only [pu, pn, s1, s2, s3]
        refine wpAnyH_done (by kernel_rfl) ?_ _
        obtain ⟨V, hV⟩ : ∃ V, V = (((((((((((w4.setCell ⟨w9.heap.size, 0, none⟩ (.int .i64 e0)).setCell ⟨w9.heap.size, 1, none⟩ (.int .i64 e1)).setCell ⟨w9.heap.size, 2, none⟩ (.int .i64 e2)).setCell ⟨w9.heap.size, 3, none⟩ (.int .i64 e3)).setCell ⟨w9.heap.size, 4, none⟩ (.int .i64 e4)).setCell ⟨w9.heap.size, 5, none⟩ (.int .i64 e5)).setCell ⟨w9.heap.size, 6, none⟩ (.int .i64 e6)).setCell ⟨w9.heap.size, 7, none⟩ (.int .i64 e7)).setCell ⟨w9.heap.size, 8, none⟩ (.int .i64 e8)).setCell ⟨w9.heap.size, 9, none⟩ (.slice A5 n5 c5)).setCell ⟨w9.heap.size, 10, none⟩ (.slice B5 m5 d5)) := ⟨_, rfl⟩
        rw [← hV] at HHeld ⊢
        have BV := Lib.hid HHeld.out
        clear hV HHeld
        have g0 := bel_later BV.out HG0.out
        go_upto_region 17 with (first
          | (go_at_call 16; ((with_reducible refine (HPB.out _ (bel_trans B9.out BV.out)).mono ?_); rintro e w6 ⟨j0, j1, j2, j3, j4, j5, j6, j7, j8, A7, n7, c7, B7', m7, d7, rfl, b6⟩; have B6 := Lib.hid ((bel_trans B9.out BV.out).trans (b6.mono (bel_trans B9.out BV.out).size)); clear b6))
          | fail)
        obtain ⟨W7, hW7⟩ : ∃ W7, W7 = w6.alloc (.cells #[.int .i64 j0, .int .i64 j1, .int .i64 j2, .int .i64 j3, .int .i64 j4, .int .i64 j5, .int .i64 j6, .int .i64 j7, .int .i64 j8, .slice A7 n7 c7, .slice B7' m7 d7] 27) := ⟨_, rfl⟩
        have B7 := Lib.hid (show Below w.heap.size w W7 by rw [hW7]; exact bel_alloc B6.out _)
        rw [← hW7]
        clear hW7 g0
        rcases HQ.out with ⟨rfl, rfl⟩ | ⟨hq1, hq2⟩
        · have kk0 : ((0 : Int) == 0) = true := rfl
          go_wp2_with (first
            | (go_at_call 9; ((refine (HLV.out _ B7.out).mono ?_); rintro e w8 ⟨rfl, b8⟩; have B8 := Lib.hid (bel_trans B7.out b8); clear b8))
            | fail)
          exact bodyPost_ret (v := .bool true) (by simp [results, Tryz.results6, go_sem]) rfl ⟨rfl, B8.out⟩
        · have hq3 : ¬ ln < (kk : Int) + 1 := by omega
          have hq4 : (er == 0) = false := by simpa using hq2
          go_wp2_with (first
            | (go_at_call 9; ((refine (HLV.out _ B7.out).mono ?_); rintro e w8 ⟨rfl, b8⟩; have B8 := Lib.hid (bel_trans B7.out b8); clear b8))
            | fail)
          exact bodyPost_ret (v := .bool true) (by simp [results, Tryz.results6, go_sem, hq2]) rfl ⟨rfl, B8.out⟩
theorem first_any {x : ScV} {v : Value} (w : World) (hg : GW w) (hR : ScR w x v) (hi : ScIn x) (p : Nat) (hp : p ≤ 255) (s : ByteArray) : Calls Tryz.prog 6 #[v, .int .u8 (p : Int), .string s] w fun e w' => e = .returned (.bool true) ∧ Below w.heap.size w w' := by
  have hR0 := hR
  obtain ⟨a0, a1, a2, a3, a4, a5, a6, a7, a8, A, c, B, d, hs, hcf, rfl, hA, hRW, hP⟩ := hR0.h
  by_cases hno : FewP x ∧ s.size ≤ 60 ∧ GoodS x ∧ (prL x).length ≤ 4000
  · obtain ⟨q1, q2, q3, q4⟩ := hno
    exact first_main ⟨fun W h => hR.later h, hi, hg, hcf, rfl, rfl⟩ p hp s q1 q2 q3 q4
  · exact first_easy ⟨fun W h => hR.later h, hi, hg, hcf, rfl, rfl⟩ p hp s hno
end Go.Proofs.YtelpkajlejbbgaaGreatDoor
