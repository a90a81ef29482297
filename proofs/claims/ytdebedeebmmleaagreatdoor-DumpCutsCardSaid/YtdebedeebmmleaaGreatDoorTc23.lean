/- Texts of the proof, one behind the other. -/
import Derived.Test.YtdebedeebmmleaaGreatDoorTc01
import Derived.Test.YtdebedeebmmleaaGreatDoorTc22
set_option linter.unusedVariables false
set_option linter.unusedSimpArgs false
namespace Go.Proofs.YtdebedeebmmleaaGreatDoor
open Go.RowKit Go.Maps
/-- A node that is read. -/
structure NRd (w : World) (x : NC) (hs : List Hd) (y : NdV) : Prop where
  k : x.k = y.k
  p : x.p.n = y.piv.length ∧ ES.Rd w x.p.A y.piv
  q : x.q.n = y.kids.length ∧ EI.Rd w x.q.A y.kids
  m : x.m.n = y.ms.length ∧ EM.Rd w x.m.A y.ms
  b : x.b.n = hs.length ∧ EH.Rd w x.b.A hs ∧ hs.length = y.bl.length ∧ ∀ (i : Nat) (h : Hd) (l : List EnV), hs[i]? = some h → y.bl[i]? = some l → h.n = l.length ∧ EE.Rd w h.A l
theorem NRd.later {w w' : World} {x : NC} {hs : List Hd} {y : NdV} (h : NRd w x hs y) (b : Below w.heap.size w w') : NRd w' x hs y :=
  ⟨h.k, ⟨h.p.1, h.p.2.later b⟩, ⟨h.q.1, h.q.2.later b⟩, ⟨h.m.1, h.m.2.later b⟩, h.b.1, h.b.2.1.later b, h.b.2.2.1, fun i g l hg hl => ⟨(h.b.2.2.2 i g l hg hl).1, (h.b.2.2.2 i g l hg hl).2.later b⟩⟩
/-- A node whose things are not too many or long. -/
structure NSm (y : NdV) : Prop where
  p : y.piv.length ≤ 400000 ∧ ∀ t ∈ y.piv, t.size ≤ 900000
  q : y.kids.length ≤ 400000
  m : y.ms.length ≤ 900000 ∧ ∀ m ∈ y.ms, MSm m
  b : y.bl.length ≤ 900000 ∧ ∀ l ∈ y.bl, l.length ≤ 400000 ∧ ∀ e ∈ l, e.key.size ≤ 900000 ∧ e.val.size ≤ 900000
abbrev nodeA (x : NC) : Value := .agg #[.int .u8 x.k, .slice x.p.A x.p.n x.p.c, .slice x.q.A x.q.n x.q.c, .slice x.m.A x.m.n x.m.c, .slice x.b.A x.b.n x.b.c]
abbrev nodeO (x : NC) : Obj := .cells #[.int .u8 x.k, .slice x.p.A x.p.n x.p.c, .slice x.q.A x.q.n x.q.c, .slice x.m.A x.m.n x.m.c, .slice x.b.A x.b.n x.b.c] 44
theorem bwd_len (l : List EnV) : (bWd l).length = 2 * l.length + 1 := by
  unfold bWd
  have : (l.flatMap eWd).length = 2 * l.length := by
    induction l with
    | nil => rfl
    | cons e l ih => rw [List.flatMap_cons, List.length_append, ih, List.length_cons]; show 2 + _ = _; omega
  rw [List.length_cons, this]
theorem bwd_next {l : List EnV} {j : Nat} {e : EnV} (h : l[j]? = some e) : bWd (l.take (j + 1)) = bWd (l.take j) ++ [tokB e.key, tokB e.val] := by
  unfold bWd
  rw [fm_next eWd h]
  rfl
theorem bwd_sz {l : List EnV} (h : ∀ e ∈ l, e.key.size ≤ 900000 ∧ e.val.size ≤ 900000) : ∀ x ∈ bWd l, x.size ≤ 2000000 := by
  intro x hx
  rcases List.mem_cons.1 hx with rfl | hx
  · decide
  · obtain ⟨e, he, hx⟩ := List.mem_flatMap.1 hx
    have := h e he
    unfold eWd at hx
    simp only [List.mem_cons, List.not_mem_nil, or_false] at hx
    rcases hx with rfl | rfl
    · exact tok_sz this.1
    · exact tok_sz this.2
def blkL (l : List EnV) : List UInt8 := lineL (bWd l)
theorem ee_at {w : World} {A : Option Addr} {xs : List EnV} (h : EE.Rd w A xs) {i : Nat} {x : EnV} (hi : xs[i]? = some x) : ∃ b off, A = some ⟨b, off, none⟩ ∧ b < w.heap.size ∧ w.cell? ⟨b, off + i * 2, none⟩ = some (.string x.key) ∧ w.cell? ⟨b, off + i * 2 + 1, none⟩ = some (.string x.val) := by
  obtain ⟨b, off, e, h1, h2⟩ := h.get hi
  exact ⟨b, off, e, h1, h2 0 _ rfl, h2 1 _ rfl⟩
theorem eh_at {w : World} {A : Option Addr} {xs : List Hd} (h : EH.Rd w A xs) {i : Nat} {x : Hd} (hi : xs[i]? = some x) : ∃ b off, A = some ⟨b, off, none⟩ ∧ b < w.heap.size ∧ w.cell? ⟨b, off + i, none⟩ = some (.slice x.A x.n x.c) := by
  obtain ⟨b, off, e, h1, h2⟩ := h.get hi
  exact ⟨b, off, e, h1, by simpa [EH] using h2 0 _ rfl⟩
set_option maxHeartbeats 4000000 in
set_option maxRecDepth 100000 in
theorem leaf_any (B b i : Nat) (x : NC) (hs : List Hd) (y : NdV) (l : List UInt8) (w : World) (hg : GB B w) (hi : i ≤ 4097) (hk : y.k = 1) (hN : ∀ V, Below B w V → NRd V x hs y) (hS : NSm y) (hD : Bd 51 B b l w) (hbs : b < w.heap.size) (hl : (l ++ nodeL i y).length ≤ 4194304) :
    Calls Tryz.prog 21 #[.pointer (some ⟨b, 0, none⟩), .int .i64 (i : Int), nodeA x] w fun e w' => e = .returned (.tuple #[]) ∧ PK B b (l ++ nodeL i y) w w' := by
  obtain ⟨l1, hl1⟩ : ∃ l1, l1 = l ++ lineL [wLeaf, itoaB (i : Int)] := ⟨_, rfl⟩
  have hnl : l ++ nodeL i y = l1 ++ y.bl.flatMap blkL := by
    unfold nodeL
    rw [if_pos hk, ← List.append_assoc, ← hl1]
    rfl
  rw [hnl] at hl ⊢
  have HL := Lib.hid (fun k => (show (l1 ++ (y.bl.take k).flatMap blkL).length ≤ 4194304 by
    have := fm_take blkL y.bl k
    rw [List.length_append] at hl ⊢
    omega))
  have HL0 : Hid (l.length ≤ 4194304) := Lib.hid (by
    rw [hl1] at hl
    simp only [List.length_append] at hl
    omega)
  have hNw := hN w (Below.refl _ _)
  have HBN := Lib.hid (And.intro hNw.b.1 hNw.b.2.2.1)
  have HN := Lib.hid hN
  have HG := Lib.hid hg
  have HSM := Lib.hid hS.b
  have HBS := Lib.hid hbs
  have HI := Lib.hid hi
  have HL1 := Lib.hid hl1
  have HP0 := Lib.hid (PK.start hD)
  clear hg hi hk hN hNw hS hD hbs hl hl1 hnl
  obtain ⟨n, hn⟩ : ∃ n, n = hs.length := ⟨_, rfl⟩
  have HNN := Lib.hid hn
  clear hn
  have hxn := HBN.out.1
  rw [← HNN.out] at hxn
  have HXN := Lib.hid hxn
  clear hxn
  obtain ⟨W0, hW0⟩ : ∃ W0, W0 = w.alloc (nodeO x) := ⟨_, rfl⟩
  have B0 := Lib.hid (show Below w.heap.size w W0 by rw [hW0]; exact alb w _)
  have Z0 := Lib.hid (show W0.heap[w.heap.size]? = some (nodeO x) by rw [hW0]; exact heap_alloc_new w _)
  go_enter Tryz.func21, Tryz.ntmps21
  go_upto_region 1 with fail
  rw [← hW0]
  clear hW0
  go_upto_region 2 with (first
    | (go_at_call 20; ((with_reducible refine (itoa_any (i : Int) (by have := HI.out; omega) (by have := HI.out; omega) _ (HG.out.later B0.out).gw).mono ?_); rintro e w1 ⟨rfl, b1⟩; have B1 := Lib.hid (bel_trans B0.out b1); have Z1 := Lib.hid (keep_bel b1 Z0.out); clear b1))
    | (go_at_call 19; ((refine (line_any B b _ 2 2 [wLeaf, itoaB (i : Int)] l _ rfl (by omega) (by omega) (WB.lit w1 #[.string wLeaf, .string (itoaB (i : Int))] [wLeaf, itoaB (i : Int)] rfl) (HP0.out.later (bel_alloc B1.out _) HG.out.le).d (Nat.le_trans HG.out.le (bel_alloc B1.out _).size) HL0.out (by intro z hz; simp only [List.mem_cons, List.not_mem_nil, or_false] at hz; rcases hz with rfl | rfl <;> first | decide | (have := itoa_sz (i : Int) (by have := HI.out; omega) (by have := HI.out; omega); omega)) (by have := HBS.out; have := B1.out.size; omega)).mono ?_); rintro e w2 ⟨rfl, p2⟩; have P2 := Lib.hid ((HP0.out.later (bel_alloc B1.out _) HG.out.le).then p2); have Z2 := Lib.hid (ok_keep p2.o (keep_bel (alb w1 _) Z1.out) (by have := HBS.out; omega) (by decide)); clear p2))
    | fail)
  rw [← HL1.out] at P2
  have c4 := (cells5 Z2.out).2.2.2.2
  rw [HXN.out] at c4
  go_upto_region 3 with fail
  clear c4
  go_loopw [19] (fun kv w4 => ∃ k : Nat, k ≤ n ∧ kv = .int .i64 k ∧ PK B b (l1 ++ (y.bl.take k).flatMap blkL) w w4) (fun kv _ => n - (intOf kv).toNat)
  case atStart => exact ⟨0, by omega, rfl, by simpa using P2.out⟩
  case round =>
    rename World => w4
    obtain ⟨k, hk, rfl, hpk⟩ := hrel
    have HP := Lib.hid hpk
    clear hpk
    have hnn := HNN.out
    have hnb := HBN.out.2
    have hsm := HSM.out
    by_cases h8 : k < n
    · have hk1 : (k : Int) < (n : Int) := by omega
      have hk0 : (0 : Int) ≤ (k : Int) := by omega
      have WK : IntKind.i64.wrap ((k : Int) + 1) = (k : Int) + 1 := IntWalk.i64_in _ (by omega)
      obtain ⟨h0, hh0⟩ : ∃ h0, hs[k]? = some h0 := ⟨_, List.getElem?_eq_getElem (by omega)⟩
      obtain ⟨l0, hl0⟩ : ∃ l0, y.bl[k]? = some l0 := ⟨_, List.getElem?_eq_getElem (by omega)⟩
      have HR := HN.out w4 HP.out.bl
      obtain ⟨b2, off, hA, hlt, g0⟩ := eh_at HR.b.2.1 hh0
      obtain ⟨hl0n, hl0r⟩ := HR.b.2.2.2 k h0 l0 hh0 hl0
      have HL0S := Lib.hid (hsm.2 l0 (List.mem_of_getElem? hl0))
      have HR0 := Lib.hid hl0r
      have HFN := Lib.hid (fm_next blkL hl0)
      obtain ⟨m, hm⟩ : ∃ m, m = l0.length := ⟨_, rfl⟩
      have HM := Lib.hid hm
      rw [← hm] at hl0n
      rw [hl0n] at g0
      have HBW := Lib.hid (show B ≤ w4.heap.size from Nat.le_trans HG.out.le HP.out.bl.size)
      rw [hA]
      clear HR hnn hnb hsm hh0 hl0 hl0r hm hl0n hlt
      go_upto_region 7 with fail
      clear g0
      go_loopw [8, 26] (fun lv jv wr => ∃ (j : Nat) (A2 : Option Addr) (c2 : Nat), j ≤ m ∧ jv = .int .i64 j ∧ lv = .slice A2 (2 * j + 1) c2 ∧ Hid (ES.Row wr w4.heap.size A2 (bWd (l0.take j)) c2) ∧ Below w4.heap.size w4 wr) (fun _ jv _ => m - (intOf jv).toNat)
      case atStart => exact ⟨0, some ⟨w4.heap.size, 0, none⟩, 1, by omega, rfl, rfl, Lib.hid (row_lit w4 wBlock), alb w4 _⟩
      case round =>
        obtain ⟨j, A2, c2, hj, rfl, rfl, HWJ, hbw⟩ := hrel
        have BJ := Lib.hid hbw
        clear hbw
        have hmm := HM.out
        have hml := HL0S.out.1
        have HK := Lib.hid (show (bWd (l0.take j)).length = 2 * j + 1 by rw [bwd_len, List.length_take]; omega)
        by_cases h9 : j < m
        · have hj1 : (j : Int) < (m : Int) := by omega
          have hj0 : (0 : Int) ≤ (j : Int) := by omega
          have WJ : IntKind.i64.wrap ((j : Int) + 1) = (j : Int) + 1 := IntWalk.i64_in _ (by omega)
          obtain ⟨e0, he0⟩ : ∃ e0, l0[j]? = some e0 := ⟨_, List.getElem?_eq_getElem (by omega)⟩
          have HE0 := Lib.hid (HL0S.out.2 e0 (List.mem_of_getElem? he0))
          obtain ⟨b3, off3, hA3, hlt3, g30, g31⟩ := ee_at (HR0.out.later BJ.out) he0
          have HNX := Lib.hid (bwd_next he0)
          have HK2 := Lib.hid (show 2 * j + 1 ≤ 1000000 by omega)
          obtain ⟨w3, hw3⟩ : ∃ w3, w3 = wr.alloc (.cells #[.string e0.key, .string e0.val] 75) := ⟨_, rfl⟩
          have HA0 := Lib.hid (show Below wr.heap.size wr w3 by rw [hw3]; exact alb wr _)
          have B3 := Lib.hid (show Below w4.heap.size w4 w3 from BJ.out.trans (HA0.out.mono BJ.out.size))
          have Z3 := Lib.hid (show w3.heap[wr.heap.size]? = some (.cells #[.string e0.key, .string e0.val] 75) by rw [hw3]; exact heap_alloc_new wr _)
          have HW3 := Lib.hid (HWJ.out.later HA0.out)
          rw [hA3]
          clear he0 hlt3 hmm hml
          go_upto_region 9 with fail
          rw [← hw3]
          clear hw3 g30 g31
          refine wp_region_held_drew (S := (fun V : World => Below w4.heap.size w4 V ∧ V.heap[wr.heap.size]? = some (.cells #[.string e0.key, .string e0.val] 75))) (by kernel_rfl) ?_ (fun hHeld => ?_)
          · exact ⟨B3.out.drew, Z3.out⟩
          have HHeld := Lib.hid hHeld; clear hHeld
          refine wT (i := 0) (oi := { dst := some 30, op := Op.move (Operand.tmp 8), type := 39, pos := "dump.go:91", after := #[], guard := none }) (v := ?_) rfl (Or.inl ⟨by rfl, ?_⟩) HHeld.out ?_
          rotate_left
          · intro w hSw; clear hSw; go_simp; try with_reducible rfl
          try simp only [pu, pn, s1, s2, s3]
          refine wT (i := 1) (oi := { dst := some 31, op := Op.fieldAddr 75 (Operand.tmp 10) 0, type := 0, pos := "dump.go:91", after := #[], guard := none }) (v := ?_) rfl (Or.inl ⟨by rfl, ?_⟩) HHeld.out ?_
          rotate_left
          · intro w hSw; clear hSw; go_simp; try with_reducible rfl
          try simp only [pu, pn, s1, s2, s3]
          refine wT (i := 2) (oi := { dst := some 32, op := Op.load 9 (Operand.tmp 31), type := 9, pos := "dump.go:91", after := #[{ on := 1, ground := Ground.data }], guard := none }) (v := (.string e0.key : Value)) rfl (Or.inl ⟨by rfl, ?_⟩) HHeld.out ?_
          · intro V hV; have hc0 := cellh hV.2 (i := 0) rfl; clear hV; go_simp
          try simp only [pu, pn, s1, s2, s3]
          refine wT (i := 4) (oi := { dst := some 34, op := Op.fieldAddr 75 (Operand.tmp 10) 1, type := 0, pos := "dump.go:91", after := #[], guard := none }) (v := ?_) rfl (Or.inl ⟨by rfl, ?_⟩) HHeld.out ?_
          rotate_left
          · intro w hSw; clear hSw; go_simp; try with_reducible rfl
          try simp only [pu, pn, s1, s2, s3]
          refine wT (i := 5) (oi := { dst := some 35, op := Op.load 9 (Operand.tmp 34), type := 9, pos := "dump.go:91", after := #[{ on := 4, ground := Ground.data }], guard := none }) (v := (.string e0.val : Value)) rfl (Or.inl ⟨by rfl, ?_⟩) HHeld.out ?_
          · intro V hV; have hc0 := cellh hV.2 (i := 1) rfl; clear hV; go_simp
          try simp only [pu, pn, s1, s2, s3]
          refine wpAnyH_ready (rs := [3]) (by kernel_rfl) (by simp) ?_
          refine AllReadyH.cons (o := { dst := some 33, op := Op.call { callee := Callee.value (Operand.func 39), args := #[Operand.tmp 32], argTypes := #[9] }, type := 9, pos := "dump.go:91", after := #[{ on := 2, ground := Ground.data }], guard := none }) rfl (fun K hK => ?_) AllReadyH.nil
          go_simp
          (go_at_call 39; ((with_reducible refine (token_any e0.key (by have := HE0.out.1; omega) _).mono ?_); rintro e v4 ⟨rfl, bb⟩; have C4 := Lib.hid (bel_dr bb); clear bb))
          refine hK.out _ _ ?_ (fun hHeld => ?_)
          · exact ⟨B3.out.trans (C4.out.mono B3.out.size), keep_bel C4.out Z3.out⟩
          clear HHeld; have HHeld := Lib.hid hHeld; clear hHeld
          clear hK K
          try simp only [pu, pn, s1, s2, s3]
          refine wpAnyH_ready (rs := [6]) (by kernel_rfl) (by simp) ?_
          refine AllReadyH.cons (o := { dst := some 36, op := Op.call { callee := Callee.value (Operand.func 39), args := #[Operand.tmp 35], argTypes := #[9] }, type := 9, pos := "dump.go:91", after := #[{ on := 5, ground := Ground.data }, { on := 3, ground := Ground.chain }], guard := none }) rfl (fun K hK => ?_) AllReadyH.nil
          go_simp
          (go_at_call 39; ((with_reducible refine (token_any e0.val (by have := HE0.out.2; omega) _).mono ?_); rintro e v5 ⟨rfl, bb⟩; have C5 := Lib.hid (bel_trans C4.out bb); clear bb))
          refine hK.out _ _ ?_ (fun hHeld => ?_)
          · exact ⟨B3.out.trans (C5.out.mono B3.out.size), keep_bel C5.out Z3.out⟩
          clear HHeld; have HHeld := Lib.hid hHeld; clear hHeld
          clear hK K
          try simp only [pu, pn, s1, s2, s3]
          refine wpAnyH_ready (rs := [7]) (by kernel_rfl) (by simp) ?_
          refine AllReadyH.cons (o := { dst := some 37, op := Op.buildSlice 39 2 #[(0, Operand.tmp 33), (1, Operand.tmp 36)], type := 39, pos := "dump.go:91", after := #[{ on := 3, ground := Ground.data }, { on := 6, ground := Ground.data }], guard := none }) rfl (fun K hK => ?_) AllReadyH.nil
          go_simp
          obtain ⟨v6, hv6⟩ : ∃ V, V = v5.alloc (.cells #[.string (tokB e0.key), .string (tokB e0.val)] 9) := ⟨_, rfl⟩
          have C6 := Lib.hid (show Below w3.heap.size w3 v6 by rw [hv6]; exact bel_alloc C5.out _)
          have RW := Lib.hid (HW3.out.later C6.out)
          have RV := Lib.hid (show ES.Rd v6 (some ⟨v5.heap.size, 0, none⟩) [tokB e0.key, tokB e0.val] by rw [hv6]; exact RE.Rd.lit (E := ES) v5 9 [tokB e0.key, tokB e0.val] #[.string (tokB e0.key), .string (tokB e0.val)] rfl)
          rw [← hv6]
          clear hv6
          have B6 := Lib.hid (B3.out.trans (C6.out.mono B3.out.size))
          refine hK.out _ _ ?_ (fun hHeld => ?_)
          · exact ⟨B6.out, keep_bel C6.out Z3.out⟩
          clear HHeld; have HHeld := Lib.hid hHeld; clear hHeld
          clear hK K
          try simp only [pu, pn, s1, s2, s3]
          refine wpAnyH_ready (rs := [8]) (by kernel_rfl) (by simp) ?_
          refine AllReadyH.cons (o := { dst := some 38, op := Op.call { callee := Callee.builtin Builtin.append, args := #[Operand.tmp 30, Operand.tmp 37], argTypes := #[39, 39] }, type := 39, pos := "dump.go:91", after := #[{ on := 0, ground := Ground.data }, { on := 7, ground := Ground.data }, { on := 6, ground := Ground.chain }], guard := none }) rfl (fun K hK => ?_) AllReadyH.nil
          refine RE.step_put ES _ rfl (.tmp 30) (.tmp 37) rfl (base := w4.heap.size) A2 (2 * j + 1) c2 (bWd (l0.take j)) (some ⟨v5.heap.size, 0, none⟩) 2 2 [tokB e0.key, tokB e0.val] (by simp [Act.eval, Act.put]) (by simp [Act.eval, Act.put]) RW.out HK.out HK2.out B6.out.size rfl (by omega) RV.out ?_
          intro A3 c3 v7 r1 r2 r3
          have R7 := Lib.hid r1
          have B7 := Lib.hid (show Below w4.heap.size w4 v7 from B6.out.trans (RE.Row.below r2 RW.out (Nat.le_refl _) B6.out.size))
          have Z7 := Lib.hid ((r2.block _ (heap_lt (keep_bel C6.out Z3.out)) (fun e => by have := (HWJ.out.fp_lt e.symm).2; omega)).trans (keep_bel C6.out Z3.out))
          clear r1 r2 r3
          refine hK.out _ _ ?_ (fun hHeld => ?_)
          · exact ⟨B7.out, Z7.out⟩
          clear HHeld; have HHeld := Lib.hid hHeld; clear hHeld
          clear hK K
          try simp only [pu, pn, s1, s2, s3]
          refine wT (i := 9) (oi := { dst := some 8, op := Op.assign (Operand.tmp 38), type := 39, pos := "dump.go:91", after := #[{ on := 8, ground := Ground.data }, { on := 8, ground := Ground.chain }, { on := 0, ground := Ground.phase }, { on := 1, ground := Ground.phase }, { on := 2, ground := Ground.phase }, { on := 3, ground := Ground.phase }, { on := 4, ground := Ground.phase }, { on := 5, ground := Ground.phase }, { on := 6, ground := Ground.phase }, { on := 7, ground := Ground.phase }, { on := 8, ground := Ground.phase }], guard := none }) (v := ?_) rfl (Or.inl ⟨by rfl, ?_⟩) HHeld.out ?_
          rotate_left
          · intro w hSw; clear hSw; go_simp; try with_reducible rfl
          try simp only [pu, pn, s1, s2, s3]
          refine wpAnyH_done (by kernel_rfl) ?_ _
          clear HHeld
          go_wp2
          exact ⟨⟨j + 1, A3, c3, by omega, rfl, rfl, Lib.hid (by rw [HNX.out]; exact R7.out), B7.out⟩, by simp [intOf]; omega⟩
        · have hje : j = m := by omega
          subst hje
          have hj1 : ¬ (j : Int) < (j : Int) := by omega
          have HE := Lib.hid (show bWd (l0.take j) = bWd l0 by rw [List.take_of_length_le (by omega)])
          rw [HE.out] at HWJ HK
          obtain ⟨bw, rfl, h1, h2, h3, hWB⟩ := WB.row HWJ.out (by rw [bwd_len]; omega)
          rw [HK.out] at h3
          have P1 := Lib.hid (HP.out.later BJ.out HBW.out)
          have LA := Lib.hid (line_any B b bw (2 * j + 1) c2 (bWd l0) _ wr HK.out h3 (by omega) hWB P1.out.d (Nat.le_trans HBW.out BJ.out.size) (HL.out k) (bwd_sz HL0S.out.2) (by have := HBS.out; have := HP.out.bl.size; omega))
          clear h1 h2 h3 hWB hmm hml
          go_wp2_with (first
            | (go_at_call 19; ((refine LA.out.mono ?_); rintro e w9 ⟨rfl, p9⟩; have P9 := Lib.hid (P1.out.then p9); clear p9))
            | fail)
          exact ⟨⟨k + 1, by omega, rfl, by rw [HFN.out, ← List.append_assoc]; exact P9.out⟩, by simp [intOf]; omega⟩
    · have hke : k = n := by omega
      subst hke
      have hk1 : ¬ (k : Int) < (k : Int) := by omega
      have HE := Lib.hid (show y.bl.take k = y.bl by rw [List.take_of_length_le (by omega)])
      rw [HE.out] at HP
      clear hnn hnb hsm
      go_wp2
      go_end0
      exact ⟨rfl, HP.out⟩
end Go.Proofs.YtdebedeebmmleaaGreatDoor
namespace Go.Proofs.YtdebedeebmmleaaGreatDoor
open Go.RowKit Go.Maps
theorem zip_take2 : ∀ (ps : List ByteArray) (ks : List Int) (k : Nat), ps.zip (ks.take k) = (ps.zip ks).take k
  | [], ks, k => by simp
  | p :: ps, [], k => by simp
  | p :: ps, q :: ks, 0 => by simp
  | p :: ps, q :: ks, k + 1 => by simp [zip_take2 ps ks k]
/-- The words of so many kids. -/
def iWd (i : Nat) (ks : List Int) (ps : List ByteArray) (k : Nat) : List ByteArray := wInner :: itoaB (i : Int) :: kWd (ks.take k) ps
theorem iwd_one {i : Nat} {ks : List Int} {ps : List ByteArray} {v : Int} (h : ks[0]? = some v) : iWd i ks ps (0 + 1) = iWd i ks ps 0 ++ [itoaB v] := by
  cases ks with
  | nil => cases h
  | cons a ks =>
    simp at h
    subst h
    unfold iWd
    simp [kWd]
theorem iwd_next {i k : Nat} {ks : List Int} {ps : List ByteArray} {v : Int} {p : ByteArray} (h : ks[k + 1]? = some v) (hp : ps[k]? = some p) : iWd i ks ps (k + 1 + 1) = (iWd i ks ps (k + 1) ++ [tokB p]) ++ [itoaB v] := by
  cases ks with
  | nil => cases h
  | cons a ks =>
    rw [List.getElem?_cons_succ] at h
    unfold iWd
    rw [List.take_succ_cons, List.take_succ_cons]
    unfold kWd
    simp only
    rw [zip_take2, zip_take2]
    have hz : (ps.zip ks)[k]? = some (p, v) := by rw [List.getElem?_zip_eq_some]; exact ⟨hp, h⟩
    rw [fm_next pWd hz]
    simp [pWd]
theorem iwd_len (i : Nat) (ks : List Int) (ps : List ByteArray) (k : Nat) : (iWd i ks ps k).length ≤ 2 * k + 2 := by
  unfold iWd
  rw [List.length_cons, List.length_cons]
  cases hq : ks.take k with
  | nil => show 0 + 1 + 1 ≤ _; omega
  | cons a q =>
    have h1 := congrArg List.length hq
    rw [List.length_take, List.length_cons] at h1
    show ((ps.zip q).flatMap pWd).length + 1 + 1 + 1 ≤ _
    have h2 : ((ps.zip q).flatMap pWd).length = 2 * (ps.zip q).length := by
      induction (ps.zip q) with
      | nil => rfl
      | cons e l ih => rw [List.flatMap_cons, List.length_append, ih, List.length_cons]; show 2 + _ = _; omega
    rw [List.length_zip] at h2
    omega
theorem iwd_sz {i : Nat} {ks : List Int} {ps : List ByteArray} (hi : i ≤ 4097) (hk : ∀ v ∈ ks, 0 ≤ v ∧ v ≤ 2147483647) (hp : ∀ t ∈ ps, t.size ≤ 900000) : ∀ x ∈ iWd i ks ps ks.length, x.size ≤ 2000000 := by
  intro x hx
  unfold iWd at hx
  rw [List.take_length] at hx
  rcases List.mem_cons.1 hx with rfl | hx
  · decide
  rcases List.mem_cons.1 hx with rfl | hx
  · have := itoa_sz (i : Int) (by omega) (by omega); omega
  cases ks with
  | nil => cases hx
  | cons a ks =>
    unfold kWd at hx
    simp only at hx
    rcases List.mem_cons.1 hx with rfl | hx
    · have h := hk a (by simp)
      have := itoa_sz a (by omega) (by omega); omega
    · obtain ⟨e, he, hx⟩ := List.mem_flatMap.1 hx
      have h1 := hp e.1 (List.of_mem_zip he).1
      have h2 := hk e.2 (List.mem_cons_of_mem _ (List.of_mem_zip he).2)
      unfold pWd at hx
      simp only [List.mem_cons, List.not_mem_nil, or_false] at hx
      rcases hx with rfl | rfl
      · exact tok_sz h1
      · have := itoa_sz e.2 (by omega) (by omega); omega
def msL (m : M) : List UInt8 := lineL (mWd m)
theorem em_at {w : World} {A : Option Addr} {xs : List M} (h : EM.Rd w A xs) {i : Nat} {m : M} (hi : xs[i]? = some m) : ∃ b off, A = some ⟨b, off, none⟩ ∧ b < w.heap.size ∧ w.cell? ⟨b, off + i * 6, none⟩ = some (.int .u8 m.k) ∧ w.cell? ⟨b, off + i * 6 + 1, none⟩ = some (.int .i64 m.q) ∧ w.cell? ⟨b, off + i * 6 + 2, none⟩ = some (.string m.key) ∧ w.cell? ⟨b, off + i * 6 + 3, none⟩ = some (.string m.too) ∧ w.cell? ⟨b, off + i * 6 + 4, none⟩ = some (.string m.val) ∧ w.cell? ⟨b, off + i * 6 + 5, none⟩ = some (.int .u64 m.dl) := by
  obtain ⟨b, off, e, h1, h2⟩ := h.get hi
  exact ⟨b, off, e, h1, h2 0 _ rfl, h2 1 _ rfl, h2 2 _ rfl, h2 3 _ rfl, h2 4 _ rfl, h2 5 _ rfl⟩
abbrev msgO (m : M) : Obj := .cells #[.int .u8 m.k, .int .i64 m.q, .string m.key, .string m.too, .string m.val, .int .u64 m.dl] 73
set_option maxHeartbeats 4000000 in
set_option maxRecDepth 100000 in
theorem inner_pr (B b i : Nat) (x : NC) (hs : List Hd) (y : NdV) (l : List UInt8) (w : World) (hg : GB B w) (hi : i ≤ 4097) (hk : y.k = 2) (hT : y.kids.length = y.piv.length + 1 ∧ (∀ v ∈ y.kids, 0 ≤ v ∧ v ≤ 2147483647) ∧ ∀ m ∈ y.ms, TMs m) (hN : ∀ V, Below B w V → NRd V x hs y) (hS : NSm y) (hD : Bd 51 B b l w) (hbs : b < w.heap.size) (hl : (l ++ nodeL i y).length ≤ 4194304) :
    Calls Tryz.prog 22 #[.pointer (some ⟨b, 0, none⟩), .int .i64 (i : Int), nodeA x] w fun e w' => e = .returned (.tuple #[]) ∧ PK B b (l ++ nodeL i y) w w' := by
  obtain ⟨l1, hl1⟩ : ∃ l1, l1 = l ++ lineL (iWd i y.kids y.piv y.kids.length) := ⟨_, rfl⟩
  have hnl : l ++ nodeL i y = l1 ++ y.ms.flatMap msL := by
    unfold nodeL
    rw [if_neg (by omega), if_pos hk, ← List.append_assoc, hl1]
    unfold iWd
    rw [List.take_length]
    rfl
  rw [hnl] at hl ⊢
  have HL := Lib.hid (fun k => (show (l1 ++ (y.ms.take k).flatMap msL).length ≤ 4194304 by
    have := fm_take msL y.ms k
    rw [List.length_append] at hl ⊢
    omega))
  have HL0 : Hid (l.length ≤ 4194304) := Lib.hid (by
    rw [hl1] at hl
    simp only [List.length_append] at hl
    omega)
  have hNw := hN w (Below.refl _ _)
  obtain ⟨n, hn⟩ : ∃ n, n = y.kids.length := ⟨_, rfl⟩
  obtain ⟨np, hnp⟩ : ∃ n, n = y.piv.length := ⟨_, rfl⟩
  obtain ⟨nm, hnm⟩ : ∃ n, n = y.ms.length := ⟨_, rfl⟩
  have hxq : x.q.n = n := by rw [hNw.q.1, hn]
  have hxp : x.p.n = np := by rw [hNw.p.1, hnp]
  have hxm : x.m.n = nm := by rw [hNw.m.1, hnm]
  have HNN := Lib.hid (show n = y.kids.length ∧ np = y.piv.length ∧ nm = y.ms.length ∧ n = np + 1 from ⟨hn, hnp, hnm, by rw [hn, hnp]; exact hT.1⟩)
  have HXM := Lib.hid hxm
  have HXQ := Lib.hid hxq
  have HXP := Lib.hid hxp
  have HN := Lib.hid hN
  have HG := Lib.hid hg
  have HSM := Lib.hid hS
  have HT := Lib.hid hT
  have HBS := Lib.hid hbs
  have HI := Lib.hid hi
  have HL1 := Lib.hid hl1
  have HP0 := Lib.hid (PK.start hD)
  clear hg hi hk hN hNw hS hD hbs hl hl1 hnl hn hnp hnm hT hxm hxq hxp
  obtain ⟨W0, hW0⟩ : ∃ W0, W0 = w.alloc (nodeO x) := ⟨_, rfl⟩
  have B0 := Lib.hid (show Below w.heap.size w W0 by rw [hW0]; exact alb w _)
  have Z0 := Lib.hid (show W0.heap[w.heap.size]? = some (nodeO x) by rw [hW0]; exact heap_alloc_new w _)
  go_enter Tryz.func22, Tryz.ntmps22
  go_upto_region 1 with fail
  rw [← hW0]
  clear hW0
  go_upto_region 2 with (first
    | (go_at_call 20; ((with_reducible refine (itoa_any (i : Int) (by have := HI.out; omega) (by have := HI.out; omega) _ (HG.out.later B0.out).gw).mono ?_); rintro e w1 ⟨rfl, b1⟩; have B1 := Lib.hid b1; have R2 := Lib.hid (row_lit2 (base := W0.heap.size) w1 wInner (itoaB (i : Int)) b1.size); have B2 := Lib.hid (bel_alloc B1.out (.cells #[.string wInner, .string (itoaB (i : Int))] 9)); clear b1))
    | fail)
  obtain ⟨w2, hw2⟩ : ∃ w2, w2 = w1.alloc (.cells #[.string wInner, .string (itoaB (i : Int))] 9) := ⟨_, rfl⟩
  have HE1 := Lib.hid B1.out.size
  rw [← hw2] at R2 B2 ⊢
  clear hw2
  have c2 := (cells5 (keep_bel B2.out Z0.out)).2.2.1
  rw [HXQ.out] at c2
  go_upto_region 3 with fail
  clear c2
  go_loopw [6, 17] (fun lv kv wr => ∃ (k L : Nat) (A2 : Option Addr) (c2 : Nat), k ≤ n ∧ kv = .int .i64 k ∧ lv = .slice A2 L c2 ∧ Hid (ES.Row wr W0.heap.size A2 (iWd i y.kids y.piv k) c2) ∧ Hid ((iWd i y.kids y.piv k).length = L) ∧ Below W0.heap.size W0 wr) (fun _ kv _ => n - (intOf kv).toNat)
  case atStart => exact ⟨0, 2, some ⟨w1.heap.size, 0, none⟩, 2, by omega, rfl, rfl, R2, Lib.hid rfl, B2.out⟩
  case round =>
    obtain ⟨k, L, A2, c2, hk, rfl, rfl, HR, HLN, hbw⟩ := hrel
    have HB := Lib.hid hbw
    clear hbw
    have hnn := HNN.out
    have hsq := HSM.out.q
    have hsp := HSM.out.p.1
    have HBw := Lib.hid (show Below w.heap.size w wr from B0.out.trans (HB.out.mono B0.out.size))
    have hL2 := iwd_len i y.kids y.piv k
    have HLL := Lib.hid (show L ≤ 2 * k + 2 ∧ L ≤ 900000 by have := HLN.out; omega)
    by_cases h8 : k < n
    · have hk1 : (k : Int) < (n : Int) := by omega
      have hk0 : (0 : Int) ≤ (k : Int) := by omega
      have WK : IntKind.i64.wrap ((k : Int) + 1) = (k : Int) + 1 := IntWalk.i64_in _ (by omega)
      obtain ⟨v, hv⟩ : ∃ v, y.kids[k]? = some v := ⟨_, List.getElem?_eq_getElem (by omega)⟩
      have HNR := Lib.hid (HN.out wr (HBw.out.mono HG.out.le))
      obtain ⟨b2, off, hA, hlt, g0⟩ := ei_at HNR.out.q.2 hv
      have HV := Lib.hid (HT.out.2.1 v (List.mem_of_getElem? hv))
      have HGW := Lib.hid (HG.out.later HBw.out).gw
      rw [hA]
      clear hA hlt hL2
      by_cases hz : k = 0
      · subst hz
        have HNX := Lib.hid (iwd_one (i := i) (ps := y.piv) hv)
        rw [Nat.add_zero] at g0
        clear hv hnn hsq hsp
        go_wp2_with (first
          | (go_at_call 20; ((refine (itoa_any v (by have := HV.out; omega) (by have := HV.out; omega) _ HGW.out).mono ?_); rintro e w5 ⟨rfl, b5⟩; have B5 := Lib.hid (bel_trans HB.out b5); have RW := Lib.hid ((HR.out.later b5).later (alb w5 (.cells #[.string (itoaB v)] 9))); have RV := Lib.hid (RE.Rd.lit (E := ES) w5 9 [itoaB v] #[.string (itoaB v)] rfl); have B6 := Lib.hid (bel_alloc B5.out (.cells #[.string (itoaB v)] 9)); clear b5))
          | (at_builtin; refine RE.wpList_put ES _ rfl (.tmp 34) (.tmp 37) rfl (base := W0.heap.size) A2 L c2 _ _ 1 1 [itoaB v] rfl rfl RW.out HLN.out (by have := HLL.out; omega) B6.out.size rfl (by omega) RV.out ?_; intro A3 c3 w7 r1 r2 r3; have R7 := Lib.hid r1; have R8 := Lib.hid r2; clear r1 r2 r3)
          | fail)
        exact ⟨⟨0 + 1, L + 1, A3, c3, by omega, by simp, rfl, Lib.hid (by rw [HNX.out]; exact R7.out), Lib.hid (by rw [HNX.out, List.length_append, HLN.out]; rfl), B6.out.trans (RE.Row.below R8.out RW.out (Nat.le_refl _) B6.out.size)⟩, by simp [intOf]; omega⟩
      · obtain ⟨k1, hk9⟩ : ∃ k1, k = k1 + 1 := ⟨k - 1, by omega⟩
        have HK9 := Lib.hid hk9
        obtain ⟨p, hp⟩ : ∃ p, y.piv[k1]? = some p := ⟨_, List.getElem?_eq_getElem (by omega)⟩
        have k5 : (0 : Int) < (k : Int) := by omega
        have k6 : (0 : Int) ≤ (k1 : Int) := by omega
        have k7 : (k1 : Int) < (np : Int) := by omega
        have WS : IntKind.i64.wrap ((k : Int) - 1) = (k1 : Int) := by rw [IntWalk.i64_in _ (by omega)]; omega
        have HNX := Lib.hid (show iWd i y.kids y.piv (k + 1) = (iWd i y.kids y.piv k ++ [tokB p]) ++ [itoaB v] by rw [hk9] at hv ⊢; exact iwd_next hv hp)
        obtain ⟨b3, off3, hA3, hlt3, g3⟩ := es_at HNR.out.p.2 hp
        have HPZ := Lib.hid (HSM.out.p.2 p (List.mem_of_getElem? hp))
        have c1 := (cells5 (keep_bel HB.out Z0.out)).2.1
        rw [HXP.out, hA3] at c1
        clear hv hp hnn hsq hsp hk9 hz hA3 hlt3
        go_wp2_with (first
          | (go_at_call 39; ((refine (token_any p (by have := HPZ.out; omega) _).mono ?_); rintro e w5 ⟨rfl, b5⟩; have B5 := Lib.hid (bel_trans HB.out b5); have RW := Lib.hid ((HR.out.later b5).later (alb w5 (.cells #[.string (tokB p)] 9))); have RV := Lib.hid (RE.Rd.lit (E := ES) w5 9 [tokB p] #[.string (tokB p)] rfl); have B6 := Lib.hid (bel_alloc B5.out (.cells #[.string (tokB p)] 9)); clear b5 c1 g3))
          | (at_builtin; refine RE.wpList_put ES _ rfl (.tmp 24) (.tmp 32) rfl (base := W0.heap.size) A2 L c2 _ _ 1 1 [tokB p] rfl rfl RW.out HLN.out (by have := HLL.out; omega) B6.out.size rfl (by omega) RV.out ?_; intro A3 c3 w7 r1 r2 r3; have R7 := Lib.hid r1; have B7 := Lib.hid (B6.out.trans (RE.Row.below r2 RW.out (Nat.le_refl _) B6.out.size)); have HL7 := Lib.hid (show (iWd i y.kids y.piv k ++ [tokB p]).length = L + 1 by rw [List.length_append, HLN.out]; rfl); clear r1 r2 r3)
          | (go_at_call 20; ((refine (itoa_any v (by have := HV.out; omega) (by have := HV.out; omega) _ (HG.out.later (B0.out.trans (B7.out.mono B0.out.size))).gw).mono ?_); rintro e w8 ⟨rfl, b8⟩; have B8 := Lib.hid (bel_trans B7.out b8); have RW8 := Lib.hid ((R7.out.later b8).later (alb w8 (.cells #[.string (itoaB v)] 9))); have RV8 := Lib.hid (RE.Rd.lit (E := ES) w8 9 [itoaB v] #[.string (itoaB v)] rfl); have B9 := Lib.hid (bel_alloc B8.out (.cells #[.string (itoaB v)] 9)); clear b8))
          | (at_builtin; refine RE.wpList_put ES _ rfl (.tmp 34) (.tmp 37) rfl (base := W0.heap.size) A3 (L + 1) c3 _ _ 1 1 [itoaB v] rfl rfl RW8.out HL7.out (by have := HLL.out; omega) B9.out.size rfl (by omega) RV8.out ?_; intro A4 c4 w10 r1 r2 r3; have R10 := Lib.hid r1; have B10 := Lib.hid (B9.out.trans (RE.Row.below r2 RW8.out (Nat.le_refl _) B9.out.size)); clear r1 r2 r3)
          | fail)
        exact ⟨⟨k + 1, L + 1 + 1, A4, c4, by omega, rfl, rfl, Lib.hid (by rw [HNX.out]; exact R10.out), Lib.hid (by rw [HNX.out, List.length_append, HL7.out]; rfl), B10.out⟩, by simp [intOf]; omega⟩
    · have hke : k = n := by omega
      subst hke
      have hk1 : ¬ (k : Int) < (k : Int) := by omega
      have hkn : k = y.kids.length := hnn.1
      obtain ⟨bw, rfl, h1, h2, h3, hWB⟩ := WB.row HR.out (by unfold iWd; simp)
      rw [HLN.out] at h3
      have P1 := Lib.hid (HP0.out.later HBw.out HG.out.le)
      have LA := Lib.hid (line_any B b bw L c2 (iWd i y.kids y.piv k) l wr HLN.out h3 (by have := HLL.out; omega) hWB P1.out.d (Nat.le_trans HG.out.le HBw.out.size) HL0.out (by rw [hkn]; exact iwd_sz HI.out HT.out.2.1 HSM.out.p.2) (by have := HBS.out; have := B0.out.size; have h7 : w.heap.size < W0.heap.size := heap_lt Z0.out; omega))
      rw [hkn, ← HL1.out] at LA
      clear h1 h2 h3 hWB hsq hsp hL2 hkn hnn
      go_upto_region 10 with (first
        | (go_at_call 19; ((refine LA.out.mono ?_); rintro e w9 ⟨rfl, p9⟩; have P9 := Lib.hid (P1.out.then p9); have Z9 := Lib.hid (ok_keep p9.o (keep_bel HB.out Z0.out) (by have := HBS.out; omega) (by decide)); clear p9))
        | fail)
      have c3 := (cells5 Z9.out).2.2.2.1
      rw [HXM.out] at c3
      go_upto_region 11 with fail
      clear c3
      go_loopw [46] (fun qv wq => ∃ q : Nat, q ≤ nm ∧ qv = .int .i64 q ∧ PK B b (l1 ++ (y.ms.take q).flatMap msL) w wq) (fun qv _ => nm - (intOf qv).toNat)
      case atStart => exact ⟨0, by omega, rfl, by simpa using P9.out⟩
      case round =>
        obtain ⟨q, hq, rfl, hpk⟩ := hrel
        have HP := Lib.hid hpk
        clear hpk
        have hnn := HNN.out
        have hsm := HSM.out.m
        by_cases h9 : q < nm
        · have q1 : (q : Int) < (nm : Int) := by omega
          have q0 : (0 : Int) ≤ (q : Int) := by omega
          have WQ : IntKind.i64.wrap ((q : Int) + 1) = (q : Int) + 1 := IntWalk.i64_in _ (by omega)
          obtain ⟨m0, hm0⟩ : ∃ m0, y.ms[q]? = some m0 := ⟨_, List.getElem?_eq_getElem (by omega)⟩
          have HNR := HN.out wr HP.out.bl
          obtain ⟨b4, off4, hA4, hlt4, e0, e1, e2, e3, e4, e5⟩ := em_at HNR.m.2 hm0
          have HFN := Lib.hid (fm_next msL hm0)
          obtain ⟨W3, hW3⟩ : ∃ W3, W3 = wr.alloc (msgO m0) := ⟨_, rfl⟩
          have B3 := Lib.hid (show Below wr.heap.size wr W3 by rw [hW3]; exact alb wr _)
          have Z3 := Lib.hid (show W3.heap[wr.heap.size]? = some (msgO m0) by rw [hW3]; exact heap_alloc_new wr _)
          have HBQ := Nat.le_trans HG.out.le HP.out.bl.size
          have P3 := Lib.hid (HP.out.later B3.out HBQ)
          have PM := Lib.hid (pmsg_any B b m0 _ W3 (HG.out.bel P3.out.bl) (HT.out.2.2 m0 (List.mem_of_getElem? hm0)) (hsm.2 m0 (List.mem_of_getElem? hm0)) P3.out.d (Nat.lt_of_lt_of_le HBS.out P3.out.bl.size) (HL.out q))
          rw [hA4]
          clear hm0 hlt4 hnn hsm HNR hA4 HBQ
          go_upto_region 13 with fail
          rw [← hW3]
          clear hW3 e0 e1 e2 e3 e4 e5
          obtain ⟨d0, d1, d2, d3, d4, d5⟩ := cells6 Z3.out
          unfold M.v at PM
          go_wp2_with (first
            | (go_at_call 40; ((with_reducible refine PM.out.mono ?_); rintro e w8 ⟨rfl, p8⟩; have P8 := Lib.hid (P3.out.then p8); clear p8))
            | fail)
          exact ⟨⟨q + 1, by omega, rfl, by rw [HFN.out, ← List.append_assoc]; exact P8.out⟩, by simp [intOf]; omega⟩
        · have hqe : q = nm := by omega
          subst hqe
          have q1 : ¬ (q : Int) < (q : Int) := by omega
          have HE := Lib.hid (show y.ms.take q = y.ms by rw [List.take_of_length_le (by omega)])
          rw [HE.out] at HP
          clear hnn hsm
          go_wp2
          go_end0
          exact ⟨rfl, HP.out⟩
end Go.Proofs.YtdebedeebmmleaaGreatDoor
