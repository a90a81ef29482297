/- Texts of the proof, one behind the other. -/
import Derived.Test.YtdebedeebmmleaaGreatDoorTc01
import Derived.Test.YtdebedeebmmleaaGreatDoorTc05
set_option linter.unusedVariables false
set_option linter.unusedSimpArgs false
namespace Go.Proofs.YtdebedeebmmleaaGreatDoor
open Go.RowKit Go.Maps
variable {nV aV : Value}
/-- Entries, or a fault. -/
def RBl (r : Option (List EnV)) (ln : Int) (w : World) (e : Ending) (w' : World) : Prop :=
  (match r with
    | some l => ∃ A c, e = .returned (.slice A l.length c) ∧ EE.Row w' w.heap.size A l c
    | none => e = .panicked [FP ln 3]) ∧ Below w.heap.size w w'
set_option maxHeartbeats 1500000 in
set_option maxRecDepth 100000 in
theorem rblock_any {B g : Nat} {t : ByteArray} {ln : Int} {w : World} (A : Option Addr) (n c : Nat) (ws : List ByteArray) (hr : RB nV aV w g t ln) (hb : GB B w) (hl : ws.length = n) (hn : n ≤ 900000) (hA : ES.Rd w A ws) (hs : ∀ x ∈ ws, x.size ≤ 1000000) :
    Calls Tryz.prog 56 #[.pointer (some ⟨g, 0, none⟩), .slice A n c] w (RBl (entB ws) ln w) := by
  by_cases hev : n % 2 = 1
  · have HE := Lib.hid (ent_odd ws (by omega))
    have e0 : ((n : Int).tmod 2 == 0) = false := by rw [Int.tmod_eq_emod_of_nonneg (by omega)]; exact beq_eq_false_iff_ne.2 (by omega)
    have e3 : ((n : Int) % 2 == 0) = false := beq_eq_false_iff_ne.2 (by omega)
    have e4 : ¬ (n : Int) % 2 = 0 := by omega
    have e1 : ¬ (n : Int).tmod 2 = 0 := by rw [Int.tmod_eq_emod_of_nonneg (by omega)]; omega
    have e2 : IntKind.i64.wrap ((n : Int).tmod 2) = (n : Int).tmod 2 := IntWalk.i64_in _ (by rw [Int.tmod_eq_emod_of_nonneg (by omega)]; omega)
    have HR := Lib.hid hr
    clear hr hb hl hn hA hs hev
    go_enter Tryz.func56, Tryz.ntmps56
    go_wp2_with (first
      | (go_at_call 51; ((with_reducible refine (check_bad g 3 _ HR.out).mono ?_); rintro e w4 ⟨rfl, rfl⟩))
      | fail)
    rw [HE.out]
    exact ⟨rfl, rfl, Below.refl _ _⟩
  obtain ⟨m, hm⟩ : ∃ m, n = 2 * m := ⟨n / 2, by omega⟩
  have e1 : (n : Int).tmod 2 = 0 := by rw [Int.tmod_eq_emod_of_nonneg (by omega)]; omega
  have HR := Lib.hid hr
  have HB0 := Lib.hid hb
  have HL := Lib.hid (And.intro hl (And.intro hn hm))
  have HA := Lib.hid hA
  have HS := Lib.hid hs
  obtain ⟨r, hrr⟩ : ∃ r, entB ws = r := ⟨_, rfl⟩
  rw [hrr]
  have HRR := Lib.hid hrr
  clear hr hb hl hn hA hs hev hrr hm
  go_enter Tryz.func56, Tryz.ntmps56
  go_upto_region 4 with (first
    | (go_at_call 51; ((with_reducible refine (check_ok g 3 _).mono ?_); rintro e w4 ⟨rfl, rfl⟩))
    | fail)
  go_loopw [5, 6] (fun ev iv wr => ∃ (k : Nat) (l : List EnV) (A2 : Option Addr) (c2 : Nat), 2 * k ≤ n ∧ iv = .int .i64 ((2 * k : Nat) : Int) ∧ ev = .slice A2 k c2 ∧ Hid (entB (ws.take (2 * k)) = some l) ∧ Hid (l.length = k) ∧ Hid (EE.Row wr w.heap.size A2 l c2) ∧ Below w.heap.size w wr) (fun _ iv _ => n - (intOf iv).toNat)
  case atStart => exact ⟨0, [], none, 0, by omega, rfl, rfl, Lib.hid rfl, Lib.hid rfl, Lib.hid (.inl ⟨rfl, rfl⟩), Below.refl _ _⟩
  case round =>
    obtain ⟨k, l, A2, c2, hk, rfl, rfl, HP, HK, HRW, hbw⟩ := hrel
    have HB := Lib.hid hbw
    clear hbw
    obtain ⟨i, hi⟩ : ∃ i, 2 * k = i := ⟨_, rfl⟩
    have hNN := HL.out
    rw [hi]
    by_cases h8 : i < n
    · have hk1 : (i : Int) < (n : Int) := by omega
      have hk0 : (0 : Int) ≤ (i : Int) := by omega
      have hk2 : (0 : Int) ≤ (i : Int) + 1 := by omega
      have hk3 : (i : Int) + 1 < (n : Int) := by omega
      have WK : IntKind.i64.wrap ((i : Int) + 1) = (i : Int) + 1 := IntWalk.i64_in _ (by omega)
      have WK2 : IntKind.i64.wrap ((i : Int) + 2) = (i : Int) + 2 := IntWalk.i64_in _ (by omega)
      obtain ⟨x, hx⟩ : ∃ x, ws[i]? = some x := ⟨_, List.getElem?_eq_getElem (by omega)⟩
      obtain ⟨y, hy⟩ : ∃ y, ws[i + 1]? = some y := ⟨_, List.getElem?_eq_getElem (by omega)⟩
      obtain ⟨b3, off, hA3, hlt, g0⟩ := es_at HA.out hx
      obtain ⟨b4, off4, hA4, hlt4, g1⟩ := es_at HA.out hy
      rw [hA3] at hA4
      injection hA4 with hA4
      injection hA4 with hA5 hA6 hA7
      subst hA5 hA6 hA3
      have hn2 := ent_next HP.out (by rw [hi]; exact hx) (by rw [hi]; exact hy)
      have HG0 := Lib.hid g0
      have HG1 := Lib.hid g1
      have HX := Lib.hid (fun V (hV : Below w.heap.size w V) => rtext_any (s := x) (HR.out.later hV) (HB0.out.later hV) (HS.out x (List.mem_of_getElem? hx)))
      have HY := Lib.hid (fun V (hV : Below w.heap.size w V) => rtext_any (s := y) (HR.out.later hV) (HB0.out.later hV) (HS.out y (List.mem_of_getElem? hy)))
      unfold RN at HX HY
      have HK2 := Lib.hid (show k ≤ 1000000 by omega)
      have hstop : entB (ws.take (2 * (k + 1))) = none → r = none := fun h => by rw [← HRR.out]; exact ent_stop (by omega) h
      clear hx hy g0 g1 hlt hlt4 hNN
      cases htx : txtB x with
      | none =>
        rw [htx] at HX hn2
        have HN := hstop hn2
        clear hn2 hstop htx HY
        subst HN
        go_upto_region 6 with fail
        refine wp_region_held_drew (S := (fun V : World => Below w.heap.size w V)) (by kernel_rfl) ?_ (fun hHeld => ?_)
        · exact HB.out.drew
        have HHeld := Lib.hid hHeld; clear hHeld
        refine wT (i := 0) (oi := { dst := some 19, op := Op.move (Operand.tmp 5), type := 69, pos := "parse.go:131", after := #[], guard := none }) (v := ?_) rfl (Or.inl ⟨by rfl, ?_⟩) HHeld.out ?_
        rotate_left
        · intro w hSw; clear hSw; go_simp; try with_reducible rfl
        try simp only [pu, pn, s1, s2, s3]
        refine wT (i := 1) (oi := { dst := some 20, op := Op.move (Operand.tmp 0), type := 64, pos := "parse.go:131", after := #[], guard := none }) (v := ?_) rfl (Or.inl ⟨by rfl, ?_⟩) HHeld.out ?_
        rotate_left
        · intro w hSw; clear hSw; go_simp; try with_reducible rfl
        try simp only [pu, pn, s1, s2, s3]
        refine wT (i := 2) (oi := { dst := some 21, op := Op.move (Operand.tmp 1), type := 39, pos := "parse.go:131", after := #[], guard := none }) (v := ?_) rfl (Or.inl ⟨by rfl, ?_⟩) HHeld.out ?_
        rotate_left
        · intro w hSw; clear hSw; go_simp; try with_reducible rfl
        try simp only [pu, pn, s1, s2, s3]
        refine wT (i := 3) (oi := { dst := some 22, op := Op.move (Operand.tmp 6), type := 3, pos := "parse.go:131", after := #[], guard := none }) (v := ?_) rfl (Or.inl ⟨by rfl, ?_⟩) HHeld.out ?_
        rotate_left
        · intro w hSw; clear hSw; go_simp; try with_reducible rfl
        try simp only [pu, pn, s1, s2, s3]
        refine wT (i := 4) (oi := { dst := some 23, op := Op.indexAddr 39 (Operand.tmp 21) (Operand.tmp 22), type := 0, pos := "parse.go:131", after := #[{ on := 2, ground := Ground.data }, { on := 3, ground := Ground.data }], guard := none }) (v := ?_) rfl (Or.inl ⟨by rfl, ?_⟩) HHeld.out ?_
        rotate_left
        · intro w hSw; clear hSw; go_simp; try with_reducible rfl
        try simp only [pu, pn, s1, s2, s3]
        refine wT (i := 5) (oi := { dst := some 24, op := Op.load 9 (Operand.tmp 23), type := 9, pos := "parse.go:131", after := #[{ on := 4, ground := Ground.data }], guard := none }) (v := (.string x : Value)) rfl (Or.inl ⟨by rfl, ?_⟩) HHeld.out ?_
        · intro V hV; have hc0 := bel_later hV HG0.out; clear hV; go_simp
        try simp only [pu, pn, s1, s2, s3]
        refine wT (i := 7) (oi := { dst := some 26, op := Op.move (Operand.tmp 0), type := 64, pos := "parse.go:131", after := #[], guard := none }) (v := ?_) rfl (Or.inl ⟨by rfl, ?_⟩) HHeld.out ?_
        rotate_left
        · intro w hSw; clear hSw; go_simp; try with_reducible rfl
        try simp only [pu, pn, s1, s2, s3]
        refine wT (i := 8) (oi := { dst := some 27, op := Op.move (Operand.tmp 1), type := 39, pos := "parse.go:131", after := #[], guard := none }) (v := ?_) rfl (Or.inl ⟨by rfl, ?_⟩) HHeld.out ?_
        rotate_left
        · intro w hSw; clear hSw; go_simp; try with_reducible rfl
        try simp only [pu, pn, s1, s2, s3]
        refine wT (i := 9) (oi := { dst := some 28, op := Op.move (Operand.tmp 6), type := 3, pos := "parse.go:131", after := #[], guard := none }) (v := ?_) rfl (Or.inl ⟨by rfl, ?_⟩) HHeld.out ?_
        rotate_left
        · intro w hSw; clear hSw; go_simp; try with_reducible rfl
        try simp only [pu, pn, s1, s2, s3]
        refine wT (i := 10) (oi := { dst := some 29, op := Op.binOp BinOp.add 3 (Operand.tmp 28) (Operand.const (Value.int IntKind.i64 1)) 3, type := 3, pos := "parse.go:131", after := #[{ on := 9, ground := Ground.data }], guard := none }) (v := ?_) rfl (Or.inl ⟨by rfl, ?_⟩) HHeld.out ?_
        rotate_left
        · intro w hSw; clear hSw; go_simp; try with_reducible rfl
        try simp only [pu, pn, s1, s2, s3]
        refine wT (i := 11) (oi := { dst := some 30, op := Op.indexAddr 39 (Operand.tmp 27) (Operand.tmp 29), type := 0, pos := "parse.go:131", after := #[{ on := 8, ground := Ground.data }, { on := 10, ground := Ground.data }], guard := none }) (v := ?_) rfl (Or.inl ⟨by rfl, ?_⟩) HHeld.out ?_
        rotate_left
        · intro w hSw; clear hSw; go_simp; try with_reducible rfl
        try simp only [pu, pn, s1, s2, s3]
        refine wT (i := 12) (oi := { dst := some 31, op := Op.load 9 (Operand.tmp 30), type := 9, pos := "parse.go:131", after := #[{ on := 11, ground := Ground.data }], guard := none }) (v := (.string y : Value)) rfl (Or.inl ⟨by rfl, ?_⟩) HHeld.out ?_
        · intro V hV; have hc0 := bel_later hV HG1.out; clear hV; go_simp
        try simp only [pu, pn, s1, s2, s3]
        refine wpAnyH_ready (rs := [6]) (by kernel_rfl) (by simp) ?_
        refine AllReadyH.cons (o := { dst := some 25, op := Op.call { callee := Callee.value (Operand.func 74), args := #[Operand.tmp 20, Operand.tmp 24], argTypes := #[64, 9] }, type := 9, pos := "parse.go:131", after := #[{ on := 1, ground := Ground.data }, { on := 5, ground := Ground.data }], guard := none }) rfl (fun K hK => ?_) AllReadyH.nil
        go_simp
        (go_at_call 74; ((with_reducible refine (HX.out _ HHeld.out).mono ?_); rintro e w4 ⟨rfl, b4⟩; have B4 := Lib.hid (HHeld.out.trans (b4.mono HHeld.out.size)); have CB4 := Lib.hid (bel_dr b4); clear b4))
        exact ⟨rfl, rfl, B4.out⟩
      | some a =>
        rw [htx] at HX hn2
        cases hty : txtB y with
        | none =>
          rw [hty] at HY hn2
          have HN := hstop hn2
          clear hn2 hstop htx hty
          subst HN
          go_upto_region 6 with fail
          refine wp_region_held_drew (S := (fun V : World => Below w.heap.size w V)) (by kernel_rfl) ?_ (fun hHeld => ?_)
          · exact HB.out.drew
          have HHeld := Lib.hid hHeld; clear hHeld
          refine wT (i := 0) (oi := { dst := some 19, op := Op.move (Operand.tmp 5), type := 69, pos := "parse.go:131", after := #[], guard := none }) (v := ?_) rfl (Or.inl ⟨by rfl, ?_⟩) HHeld.out ?_
          rotate_left
          · intro w hSw; clear hSw; go_simp; try with_reducible rfl
          try simp only [pu, pn, s1, s2, s3]
          refine wT (i := 1) (oi := { dst := some 20, op := Op.move (Operand.tmp 0), type := 64, pos := "parse.go:131", after := #[], guard := none }) (v := ?_) rfl (Or.inl ⟨by rfl, ?_⟩) HHeld.out ?_
          rotate_left
          · intro w hSw; clear hSw; go_simp; try with_reducible rfl
          try simp only [pu, pn, s1, s2, s3]
          refine wT (i := 2) (oi := { dst := some 21, op := Op.move (Operand.tmp 1), type := 39, pos := "parse.go:131", after := #[], guard := none }) (v := ?_) rfl (Or.inl ⟨by rfl, ?_⟩) HHeld.out ?_
          rotate_left
          · intro w hSw; clear hSw; go_simp; try with_reducible rfl
          try simp only [pu, pn, s1, s2, s3]
          refine wT (i := 3) (oi := { dst := some 22, op := Op.move (Operand.tmp 6), type := 3, pos := "parse.go:131", after := #[], guard := none }) (v := ?_) rfl (Or.inl ⟨by rfl, ?_⟩) HHeld.out ?_
          rotate_left
          · intro w hSw; clear hSw; go_simp; try with_reducible rfl
          try simp only [pu, pn, s1, s2, s3]
          refine wT (i := 4) (oi := { dst := some 23, op := Op.indexAddr 39 (Operand.tmp 21) (Operand.tmp 22), type := 0, pos := "parse.go:131", after := #[{ on := 2, ground := Ground.data }, { on := 3, ground := Ground.data }], guard := none }) (v := ?_) rfl (Or.inl ⟨by rfl, ?_⟩) HHeld.out ?_
          rotate_left
          · intro w hSw; clear hSw; go_simp; try with_reducible rfl
          try simp only [pu, pn, s1, s2, s3]
          refine wT (i := 5) (oi := { dst := some 24, op := Op.load 9 (Operand.tmp 23), type := 9, pos := "parse.go:131", after := #[{ on := 4, ground := Ground.data }], guard := none }) (v := (.string x : Value)) rfl (Or.inl ⟨by rfl, ?_⟩) HHeld.out ?_
          · intro V hV; have hc0 := bel_later hV HG0.out; clear hV; go_simp
          try simp only [pu, pn, s1, s2, s3]
          refine wT (i := 7) (oi := { dst := some 26, op := Op.move (Operand.tmp 0), type := 64, pos := "parse.go:131", after := #[], guard := none }) (v := ?_) rfl (Or.inl ⟨by rfl, ?_⟩) HHeld.out ?_
          rotate_left
          · intro w hSw; clear hSw; go_simp; try with_reducible rfl
          try simp only [pu, pn, s1, s2, s3]
          refine wT (i := 8) (oi := { dst := some 27, op := Op.move (Operand.tmp 1), type := 39, pos := "parse.go:131", after := #[], guard := none }) (v := ?_) rfl (Or.inl ⟨by rfl, ?_⟩) HHeld.out ?_
          rotate_left
          · intro w hSw; clear hSw; go_simp; try with_reducible rfl
          try simp only [pu, pn, s1, s2, s3]
          refine wT (i := 9) (oi := { dst := some 28, op := Op.move (Operand.tmp 6), type := 3, pos := "parse.go:131", after := #[], guard := none }) (v := ?_) rfl (Or.inl ⟨by rfl, ?_⟩) HHeld.out ?_
          rotate_left
          · intro w hSw; clear hSw; go_simp; try with_reducible rfl
          try simp only [pu, pn, s1, s2, s3]
          refine wT (i := 10) (oi := { dst := some 29, op := Op.binOp BinOp.add 3 (Operand.tmp 28) (Operand.const (Value.int IntKind.i64 1)) 3, type := 3, pos := "parse.go:131", after := #[{ on := 9, ground := Ground.data }], guard := none }) (v := ?_) rfl (Or.inl ⟨by rfl, ?_⟩) HHeld.out ?_
          rotate_left
          · intro w hSw; clear hSw; go_simp; try with_reducible rfl
          try simp only [pu, pn, s1, s2, s3]
          refine wT (i := 11) (oi := { dst := some 30, op := Op.indexAddr 39 (Operand.tmp 27) (Operand.tmp 29), type := 0, pos := "parse.go:131", after := #[{ on := 8, ground := Ground.data }, { on := 10, ground := Ground.data }], guard := none }) (v := ?_) rfl (Or.inl ⟨by rfl, ?_⟩) HHeld.out ?_
          rotate_left
          · intro w hSw; clear hSw; go_simp; try with_reducible rfl
          try simp only [pu, pn, s1, s2, s3]
          refine wT (i := 12) (oi := { dst := some 31, op := Op.load 9 (Operand.tmp 30), type := 9, pos := "parse.go:131", after := #[{ on := 11, ground := Ground.data }], guard := none }) (v := (.string y : Value)) rfl (Or.inl ⟨by rfl, ?_⟩) HHeld.out ?_
          · intro V hV; have hc0 := bel_later hV HG1.out; clear hV; go_simp
          try simp only [pu, pn, s1, s2, s3]
          refine wpAnyH_ready (rs := [6]) (by kernel_rfl) (by simp) ?_
          refine AllReadyH.cons (o := { dst := some 25, op := Op.call { callee := Callee.value (Operand.func 74), args := #[Operand.tmp 20, Operand.tmp 24], argTypes := #[64, 9] }, type := 9, pos := "parse.go:131", after := #[{ on := 1, ground := Ground.data }, { on := 5, ground := Ground.data }], guard := none }) rfl (fun K hK => ?_) AllReadyH.nil
          go_simp
          (go_at_call 74; ((with_reducible refine (HX.out _ HHeld.out).mono ?_); rintro e w4 ⟨rfl, b4⟩; have B4 := Lib.hid (HHeld.out.trans (b4.mono HHeld.out.size)); have CB4 := Lib.hid (bel_dr b4); clear b4))
          refine hK.out _ _ ?_ (fun hHeld => ?_)
          · exact B4.out
          clear HHeld; have HHeld := Lib.hid hHeld; clear hHeld
          clear hK K
          try simp only [pu, pn, s1, s2, s3]
          refine wpAnyH_ready (rs := [13]) (by kernel_rfl) (by simp) ?_
          refine AllReadyH.cons (o := { dst := some 32, op := Op.call { callee := Callee.value (Operand.func 74), args := #[Operand.tmp 26, Operand.tmp 31], argTypes := #[64, 9] }, type := 9, pos := "parse.go:131", after := #[{ on := 7, ground := Ground.data }, { on := 12, ground := Ground.data }, { on := 6, ground := Ground.chain }], guard := none }) rfl (fun K hK => ?_) AllReadyH.nil
          go_simp
          (go_at_call 74; ((with_reducible refine (HY.out _ HHeld.out).mono ?_); rintro e w5 ⟨rfl, b4⟩; have B5 := Lib.hid (HHeld.out.trans (b4.mono HHeld.out.size)); have CB5 := Lib.hid (bel_trans CB4.out b4); clear b4))
          exact ⟨rfl, rfl, B5.out⟩
        | some b =>
          rw [hty] at HY hn2
          have HN2 : Hid (entB (ws.take (2 * (k + 1))) = some (l ++ [⟨a, b⟩])) := Lib.hid hn2
          clear hn2 hstop htx hty
          go_upto_region 6 with fail
          refine wp_region_held_drew (S := (fun V : World => Below w.heap.size w V)) (by kernel_rfl) ?_ (fun hHeld => ?_)
          · exact HB.out.drew
          have HHeld := Lib.hid hHeld; clear hHeld
          refine wT (i := 0) (oi := { dst := some 19, op := Op.move (Operand.tmp 5), type := 69, pos := "parse.go:131", after := #[], guard := none }) (v := ?_) rfl (Or.inl ⟨by rfl, ?_⟩) HHeld.out ?_
          rotate_left
          · intro w hSw; clear hSw; go_simp; try with_reducible rfl
          try simp only [pu, pn, s1, s2, s3]
          refine wT (i := 1) (oi := { dst := some 20, op := Op.move (Operand.tmp 0), type := 64, pos := "parse.go:131", after := #[], guard := none }) (v := ?_) rfl (Or.inl ⟨by rfl, ?_⟩) HHeld.out ?_
          rotate_left
          · intro w hSw; clear hSw; go_simp; try with_reducible rfl
          try simp only [pu, pn, s1, s2, s3]
          refine wT (i := 2) (oi := { dst := some 21, op := Op.move (Operand.tmp 1), type := 39, pos := "parse.go:131", after := #[], guard := none }) (v := ?_) rfl (Or.inl ⟨by rfl, ?_⟩) HHeld.out ?_
          rotate_left
          · intro w hSw; clear hSw; go_simp; try with_reducible rfl
          try simp only [pu, pn, s1, s2, s3]
          refine wT (i := 3) (oi := { dst := some 22, op := Op.move (Operand.tmp 6), type := 3, pos := "parse.go:131", after := #[], guard := none }) (v := ?_) rfl (Or.inl ⟨by rfl, ?_⟩) HHeld.out ?_
          rotate_left
          · intro w hSw; clear hSw; go_simp; try with_reducible rfl
          try simp only [pu, pn, s1, s2, s3]
          refine wT (i := 4) (oi := { dst := some 23, op := Op.indexAddr 39 (Operand.tmp 21) (Operand.tmp 22), type := 0, pos := "parse.go:131", after := #[{ on := 2, ground := Ground.data }, { on := 3, ground := Ground.data }], guard := none }) (v := ?_) rfl (Or.inl ⟨by rfl, ?_⟩) HHeld.out ?_
          rotate_left
          · intro w hSw; clear hSw; go_simp; try with_reducible rfl
          try simp only [pu, pn, s1, s2, s3]
          refine wT (i := 5) (oi := { dst := some 24, op := Op.load 9 (Operand.tmp 23), type := 9, pos := "parse.go:131", after := #[{ on := 4, ground := Ground.data }], guard := none }) (v := (.string x : Value)) rfl (Or.inl ⟨by rfl, ?_⟩) HHeld.out ?_
          · intro V hV; have hc0 := bel_later hV HG0.out; clear hV; go_simp
          try simp only [pu, pn, s1, s2, s3]
          refine wT (i := 7) (oi := { dst := some 26, op := Op.move (Operand.tmp 0), type := 64, pos := "parse.go:131", after := #[], guard := none }) (v := ?_) rfl (Or.inl ⟨by rfl, ?_⟩) HHeld.out ?_
          rotate_left
          · intro w hSw; clear hSw; go_simp; try with_reducible rfl
          try simp only [pu, pn, s1, s2, s3]
          refine wT (i := 8) (oi := { dst := some 27, op := Op.move (Operand.tmp 1), type := 39, pos := "parse.go:131", after := #[], guard := none }) (v := ?_) rfl (Or.inl ⟨by rfl, ?_⟩) HHeld.out ?_
          rotate_left
          · intro w hSw; clear hSw; go_simp; try with_reducible rfl
          try simp only [pu, pn, s1, s2, s3]
          refine wT (i := 9) (oi := { dst := some 28, op := Op.move (Operand.tmp 6), type := 3, pos := "parse.go:131", after := #[], guard := none }) (v := ?_) rfl (Or.inl ⟨by rfl, ?_⟩) HHeld.out ?_
          rotate_left
          · intro w hSw; clear hSw; go_simp; try with_reducible rfl
          try simp only [pu, pn, s1, s2, s3]
          refine wT (i := 10) (oi := { dst := some 29, op := Op.binOp BinOp.add 3 (Operand.tmp 28) (Operand.const (Value.int IntKind.i64 1)) 3, type := 3, pos := "parse.go:131", after := #[{ on := 9, ground := Ground.data }], guard := none }) (v := ?_) rfl (Or.inl ⟨by rfl, ?_⟩) HHeld.out ?_
          rotate_left
          · intro w hSw; clear hSw; go_simp; try with_reducible rfl
          try simp only [pu, pn, s1, s2, s3]
          refine wT (i := 11) (oi := { dst := some 30, op := Op.indexAddr 39 (Operand.tmp 27) (Operand.tmp 29), type := 0, pos := "parse.go:131", after := #[{ on := 8, ground := Ground.data }, { on := 10, ground := Ground.data }], guard := none }) (v := ?_) rfl (Or.inl ⟨by rfl, ?_⟩) HHeld.out ?_
          rotate_left
          · intro w hSw; clear hSw; go_simp; try with_reducible rfl
          try simp only [pu, pn, s1, s2, s3]
          refine wT (i := 12) (oi := { dst := some 31, op := Op.load 9 (Operand.tmp 30), type := 9, pos := "parse.go:131", after := #[{ on := 11, ground := Ground.data }], guard := none }) (v := (.string y : Value)) rfl (Or.inl ⟨by rfl, ?_⟩) HHeld.out ?_
          · intro V hV; have hc0 := bel_later hV HG1.out; clear hV; go_simp
          try simp only [pu, pn, s1, s2, s3]
          refine wpAnyH_ready (rs := [6]) (by kernel_rfl) (by simp) ?_
          refine AllReadyH.cons (o := { dst := some 25, op := Op.call { callee := Callee.value (Operand.func 74), args := #[Operand.tmp 20, Operand.tmp 24], argTypes := #[64, 9] }, type := 9, pos := "parse.go:131", after := #[{ on := 1, ground := Ground.data }, { on := 5, ground := Ground.data }], guard := none }) rfl (fun K hK => ?_) AllReadyH.nil
          go_simp
          (go_at_call 74; ((with_reducible refine (HX.out _ HHeld.out).mono ?_); rintro e w4 ⟨rfl, b4⟩; have B4 := Lib.hid (HHeld.out.trans (b4.mono HHeld.out.size)); have CB4 := Lib.hid (bel_dr b4); clear b4))
          refine hK.out _ _ ?_ (fun hHeld => ?_)
          · exact B4.out
          clear HHeld; have HHeld := Lib.hid hHeld; clear hHeld
          clear hK K
          try simp only [pu, pn, s1, s2, s3]
          refine wpAnyH_ready (rs := [13]) (by kernel_rfl) (by simp) ?_
          refine AllReadyH.cons (o := { dst := some 32, op := Op.call { callee := Callee.value (Operand.func 74), args := #[Operand.tmp 26, Operand.tmp 31], argTypes := #[64, 9] }, type := 9, pos := "parse.go:131", after := #[{ on := 7, ground := Ground.data }, { on := 12, ground := Ground.data }, { on := 6, ground := Ground.chain }], guard := none }) rfl (fun K hK => ?_) AllReadyH.nil
          go_simp
          (go_at_call 74; ((with_reducible refine (HY.out _ HHeld.out).mono ?_); rintro e w5 ⟨rfl, b4⟩; have B5 := Lib.hid (HHeld.out.trans (b4.mono HHeld.out.size)); have CB5 := Lib.hid (bel_trans CB4.out b4); clear b4))
          refine hK.out _ _ ?_ (fun hHeld => ?_)
          · exact B5.out
          clear HHeld; have HHeld := Lib.hid hHeld; clear hHeld
          clear hK K
          try simp only [pu, pn, s1, s2, s3]
          refine wT (i := 14) (oi := { dst := some 33, op := Op.build 75 #[(0, Operand.tmp 25), (1, Operand.tmp 32)], type := 75, pos := "parse.go:131", after := #[{ on := 6, ground := Ground.data }, { on := 13, ground := Ground.data }], guard := none }) (v := ?_) rfl (Or.inl ⟨by rfl, ?_⟩) HHeld.out ?_
          rotate_left
          · intro w hSw; clear hSw; go_simp; try with_reducible rfl
          try simp only [pu, pn, s1, s2, s3]
          refine wpAnyH_ready (rs := [15]) (by kernel_rfl) (by simp) ?_
          refine AllReadyH.cons (o := { dst := some 34, op := Op.buildSlice 69 1 #[(0, Operand.tmp 33)], type := 69, pos := "parse.go:131", after := #[{ on := 14, ground := Ground.data }], guard := none }) rfl (fun K hK => ?_) AllReadyH.nil
          go_simp
          have B6 := Lib.hid (bel_alloc B5.out (.cells #[.string a, .string b] 75))
          have RW := Lib.hid ((HRW.out.later CB5.out).later (alb w5 (.cells #[.string a, .string b] 75)))
          have RV := Lib.hid (RE.Rd.lit (E := EE) w5 75 [⟨a, b⟩] #[.string a, .string b] rfl)
          refine hK.out _ _ ?_ (fun hHeld => ?_)
          · exact B6.out
          clear HHeld; have HHeld := Lib.hid hHeld; clear hHeld
          clear hK K
          try simp only [pu, pn, s1, s2, s3]
          refine wpAnyH_ready (rs := [16]) (by kernel_rfl) (by simp) ?_
          refine AllReadyH.cons (o := { dst := some 35, op := Op.call { callee := Callee.builtin Builtin.append, args := #[Operand.tmp 19, Operand.tmp 34], argTypes := #[69, 69] }, type := 69, pos := "parse.go:131", after := #[{ on := 0, ground := Ground.data }, { on := 15, ground := Ground.data }, { on := 13, ground := Ground.chain }], guard := none }) rfl (fun K hK => ?_) AllReadyH.nil
          refine RE.step_put EE _ rfl (.tmp 19) (.tmp 34) rfl (base := w.heap.size) A2 k c2 l (some ⟨w5.heap.size, 0, none⟩) 1 1 [⟨a, b⟩] (by simp [Act.eval, Act.put]) (by simp [Act.eval, Act.put]) RW.out HK.out HK2.out B6.out.size rfl (by omega) RV.out ?_
          intro A3 c3 w7 r1 r2 r3
          have R7 := Lib.hid r1
          have B7 := Lib.hid (show Below w.heap.size w w7 from B6.out.trans (RE.Row.below r2 RW.out (Nat.le_refl _) B6.out.size))
          clear r1 r2 r3
          refine hK.out _ _ ?_ (fun hHeld => ?_)
          · exact B7.out
          clear HHeld; have HHeld := Lib.hid hHeld; clear hHeld
          clear hK K
          try simp only [pu, pn, s1, s2, s3]
          refine wT (i := 17) (oi := { dst := some 5, op := Op.assign (Operand.tmp 35), type := 69, pos := "parse.go:131", after := #[{ on := 16, ground := Ground.data }, { on := 16, ground := Ground.chain }, { on := 0, ground := Ground.phase }, { on := 1, ground := Ground.phase }, { on := 2, ground := Ground.phase }, { on := 3, ground := Ground.phase }, { on := 4, ground := Ground.phase }, { on := 5, ground := Ground.phase }, { on := 6, ground := Ground.phase }, { on := 7, ground := Ground.phase }, { on := 8, ground := Ground.phase }, { on := 9, ground := Ground.phase }, { on := 10, ground := Ground.phase }, { on := 11, ground := Ground.phase }, { on := 12, ground := Ground.phase }, { on := 13, ground := Ground.phase }, { on := 14, ground := Ground.phase }, { on := 15, ground := Ground.phase }, { on := 16, ground := Ground.phase }], guard := none }) (v := ?_) rfl (Or.inl ⟨by rfl, ?_⟩) HHeld.out ?_
          rotate_left
          · intro w hSw; clear hSw; go_simp; try with_reducible rfl
          try simp only [pu, pn, s1, s2, s3]
          refine wpAnyH_done (by kernel_rfl) ?_ _
          clear HHeld
          go_wp2
          exact ⟨⟨k + 1, _, A3, c3, by omega, by simp; omega, rfl, HN2, Lib.hid (by rw [List.length_append, HK.out]; rfl), R7, B7.out⟩, by simp [intOf]; omega⟩
    · have hke : i = n := by omega
      have hk1 : ¬ (i : Int) < (n : Int) := by omega
      have HE : Hid (r = some l) := Lib.hid (by rw [← HRR.out, ← HP.out, List.take_of_length_le (by omega)])
      have HKK := Lib.hid HK.out
      clear hNN
      go_wp2
      refine bodyPost_ret (v := .slice A2 k c2) (by simp [results, Tryz.results56, go_sem]) rfl ⟨?_, HB.out⟩
      rw [HE.out]
      exact ⟨A2, c2, by rw [HKK.out], HRW.out⟩
end Go.Proofs.YtdebedeebmmleaaGreatDoor
namespace Go.Proofs.YtdebedeebmmleaaGreatDoor
open Go.RowKit Go.Maps
variable {nV aV : Value}
/-- A number that is written as one is printed, in a range. -/
def rgB (lo hi : Int) (t : ByteArray) : Option Int := match canB t with
  | some v => if lo ≤ v ∧ v ≤ hi then some v else none
  | none => none
theorem rg_in {lo hi v : Int} {t : ByteArray} (h : rgB lo hi t = some v) : canB t = some v ∧ lo ≤ v ∧ v ≤ hi := by
  unfold rgB at h
  split at h
  · split at h
    · rename_i q
      injection h with h
      subst h
      exact ⟨by assumption, q.1, q.2⟩
    · cases h
  · cases h
set_option maxHeartbeats 1500000 in
set_option maxRecDepth 100000 in
theorem rnumber_any {B g : Nat} {t s : ByteArray} {ln : Int} {w : World} (lo hi : Int) (hr : RB nV aV w g t ln) (hb : GB B w) (hs : s.size ≤ 4000000) :
    Calls Tryz.prog 52 #[.pointer (some ⟨g, 0, none⟩), .string s, .int .i64 lo, .int .i64 hi] w (RN ((rgB lo hi s).map (Value.int .i64)) ln w) := by
  have HG := Lib.hid (fun W (b : Below w.heap.size w W) => hb.gw.later b)
  have HA := Lib.hid (atoi_any s (by omega) w hb.gw)
  have HR := Lib.hid hr
  clear hr hb
  go_enter Tryz.func52, Tryz.ntmps52
  go_upto_region 2 with (first
    | (go_at_call 73; ((refine HA.out.mono ?_); rintro e w1 ⟨v, er, rfl, hv, b1⟩; have B1 := Lib.hid b1; have R1 := Lib.hid (HR.out.later b1); have HV := Lib.hid hv; clear b1 hv))
    | fail)
  rcases HV.out with ⟨rfl, q, g0, g1⟩ | ⟨⟨te, pe, rfl⟩, q⟩
  · have HI := Lib.hid (fun W (b : Below w.heap.size w W) => itoa_any v g0 g1 W (HG.out _ b))
    have hcan : canB s = if Lib.itoa v = s.data.toList then some v else none := by unfold canB; rw [q]
    by_cases he : Lib.itoa v = s.data.toList
    · have e1 : ((itoaB v).toList == s.toList) = true := bytes_eq (ba_inj (by unfold itoaB; rw [ba_list]; exact he))
      by_cases hlo : lo ≤ v
      · by_cases hhi : v ≤ hi
        · have d1 : decide (lo ≤ v) = true := decide_eq_true hlo
          have d2 : decide (v ≤ hi) = true := decide_eq_true hhi
          have HN : Hid (rgB lo hi s = some v) := Lib.hid (by unfold rgB; rw [hcan, if_pos he]; simp only; rw [if_pos ⟨hlo, hhi⟩])
          clear hcan q g0 g1 he
          go_wp2_with (first
            | (go_at_call 20; ((refine (HI.out _ B1.out).mono ?_); rintro e w3 ⟨rfl, b3⟩; have B3 := Lib.hid (bel_trans B1.out b3); clear b3))
            | (go_at_call 51; ((with_reducible refine (check_ok g 3 _).mono ?_); rintro e w4 ⟨rfl, rfl⟩))
            | fail)
          go_ret
          rw [HN.out]
          exact ⟨rfl, B3.out⟩
        · have HN : Hid (rgB lo hi s = none) := Lib.hid (by unfold rgB; rw [hcan, if_pos he]; simp only; rw [if_neg (fun h => hhi h.2)])
          have d1 : decide (lo ≤ v) = true := decide_eq_true hlo
          have d2 : decide (v ≤ hi) = false := decide_eq_false hhi
          have d3 : hi < v := by omega
          clear hhi
          clear hcan q g0 g1 he
          go_wp2_with (first
            | (go_at_call 20; ((refine (HI.out _ B1.out).mono ?_); rintro e w3 ⟨rfl, b3⟩; have B3 := Lib.hid (bel_trans B1.out b3); have R3 := Lib.hid (R1.out.later b3); clear b3))
            | (go_at_call 51; ((with_reducible refine (check_bad g 3 _ R3.out).mono ?_); rintro e w4 ⟨rfl, rfl⟩))
            | fail)
          rw [HN.out]
          exact ⟨rfl, rfl, B3.out⟩
      · have HN : Hid (rgB lo hi s = none) := Lib.hid (by unfold rgB; rw [hcan, if_pos he]; simp only; rw [if_neg (fun h => hlo h.1)])
        have d1 : decide (lo ≤ v) = false := decide_eq_false hlo
        have d3 : v < lo := by omega
        clear hlo
        clear hcan q g0 g1 he
        go_wp2_with (first
          | (go_at_call 20; ((refine (HI.out _ B1.out).mono ?_); rintro e w3 ⟨rfl, b3⟩; have B3 := Lib.hid (bel_trans B1.out b3); have R3 := Lib.hid (R1.out.later b3); clear b3))
          | (go_at_call 51; ((with_reducible refine (check_bad g 3 _ R3.out).mono ?_); rintro e w4 ⟨rfl, rfl⟩))
          | fail)
        rw [HN.out]
        exact ⟨rfl, rfl, B3.out⟩
    · have e1 : ((itoaB v).toList == s.toList) = false := bytes_ne (fun e => he (by rw [← e]; unfold itoaB; rw [ba_list]))
      have HN : Hid (rgB lo hi s = none) := Lib.hid (by unfold rgB; rw [hcan, if_neg he])
      clear hcan q g0 g1 he
      go_wp2_with (first
        | (go_at_call 20; ((refine (HI.out _ B1.out).mono ?_); rintro e w3 ⟨rfl, b3⟩; have B3 := Lib.hid (bel_trans B1.out b3); have R3 := Lib.hid (R1.out.later b3); clear b3))
        | (go_at_call 51; ((with_reducible refine (check_bad g 3 _ R3.out).mono ?_); rintro e w4 ⟨rfl, rfl⟩))
        | fail)
      rw [HN.out]
      exact ⟨rfl, rfl, B3.out⟩
  · have HN : Hid (rgB lo hi s = none) := Lib.hid (by unfold rgB; rw [q])
    clear q
    go_wp2_with (first
      | (go_at_call 51; ((with_reducible refine (check_bad g 3 _ R1.out).mono ?_); rintro e w4 ⟨rfl, rfl⟩))
      | fail)
    rw [HN.out]
    exact ⟨rfl, rfl, B1.out⟩
end Go.Proofs.YtdebedeebmmleaaGreatDoor
