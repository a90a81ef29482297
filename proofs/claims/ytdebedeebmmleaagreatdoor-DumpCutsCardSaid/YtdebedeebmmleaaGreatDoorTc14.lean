/- The reader: an inner node. -/
import Derived.Test.YtdebedeebmmleaaGreatDoorTc01
import Derived.Test.YtdebedeebmmleaaGreatDoorTc13
set_option linter.unusedVariables false
set_option linter.unusedSimpArgs false
namespace Go.Proofs.YtdebedeebmmleaaGreatDoor
open Go.RowKit Go.Maps
variable {nV aV : Value}
/-- An inner node of which some words are read. -/
structure InS (nV aV : Value) (B lo nb g z : Nat) (t : ByteArray) (ln : Int) (w : World) (O : Nat → Nat × Nat) (ns : List NC) (ys : List NdV) (y0 : NdV) (A : Option Addr) (ws : List ByteArray) (P : List ByteArray) (Q : List Int) (O' : Nat → Nat × Nat) (x : NC) (wr : World) : Prop where
  st : NS wr lo nb O' (ns.set z x) (ys.set z { y0 with k := 2, piv := P, kids := Q })
  ow : ∀ b, b < w.heap.size → O' b = O b
  rb : RB nV aV wr g t ln
  bel : Below B w wr
  rd : ES.Rd wr A ws
  gb : GB B wr
  lt : B ≤ nb ∧ B ≤ lo ∧ g < lo ∧ g ≠ nb ∧ z < ns.length
  wo : ∀ a, A = some a → a.block ≠ nb ∧ a.block < w.heap.size ∧ (O a.block).2 = 0
section
variable {B lo nb g z : Nat} {t : ByteArray} {ln : Int} {w : World} {O : Nat → Nat × Nat} {ns : List NC} {ys : List NdV} {y0 : NdV} {A : Option Addr} {ws : List ByteArray} {P : List ByteArray} {Q : List Int} {O' : Nat → Nat × Nat} {x : NC} {wr : World}
theorem InS.later {W : World} (h : InS nV aV B lo nb g z t ln w O ns ys y0 A ws P Q O' x wr) (b : Below wr.heap.size wr W) : InS nV aV B lo nb g z t ln w O ns ys y0 A ws P Q O' x W :=
  ⟨h.st.later b, h.ow, h.rb.later b, h.bel.trans (b.mono h.gb.le), h.rd.later b, h.gb.later b, h.lt, h.wo⟩
theorem InS.loLe (h : InS nV aV B lo nb g z t ln w O ns ys y0 A ws P Q O' x wr) (hlo : lo ≤ w.heap.size) : lo ≤ wr.heap.size := Nat.le_trans hlo h.bel.size
theorem InS.hx (h : InS nV aV B lo nb g z t ln w O ns ys y0 A ws P Q O' x wr) : (ns.set z x)[z]? = some x := List.getElem?_set_self h.lt.2.2.2.2
theorem InS.hy (h : InS nV aV B lo nb g z t ln w O ns ys y0 A ws P Q O' x wr) : (ys.set z { y0 with k := 2, piv := P, kids := Q })[z]? = some { y0 with k := 2, piv := P, kids := Q } := List.getElem?_set_self (by have := h.st.len; simp at this; rw [← this]; exact h.lt.2.2.2.2)
theorem InS.row (h : InS nV aV B lo nb g z t ln w O ns ys y0 A ws P Q O' x wr) : NR wr lo O' z x { y0 with k := 2, piv := P, kids := Q } := h.st.row z x _ h.hx h.hy
theorem InS.blk_kid {w1 : World} (h : InS nV aV B lo nb g z t ln w O ns ys y0 A ws P Q O' x wr) (hg : wr.grownBy w1 (RE.fp x.q.A x.q.c)) : NB w1 nb (ns.set z x) :=
  h.st.blk.chg (Chg.grown hg) (fun e => by have := (h.row.q.2.1.fp_lt e).1; have := h.st.lt; omega)
theorem InS.kid {w1 : World} {A' : Option Addr} {c' : Nat} {q : Int} (h : InS nV aV B lo nb g z t ln w O ns ys y0 A ws P Q O' x wr) (h1 : EI.Row w1 lo A' (Q ++ [q]) c') (hg : wr.grownBy w1 (RE.fp x.q.A x.q.c)) (hf : RE.fp A' c' = none ∨ RE.fp A' c' = RE.fp x.q.A x.q.c ∨ RE.fp A' c' = some wr.heap.size) :
    InS nV aV B lo nb g z t ln w O ns ys y0 A ws P (Q ++ [q]) (newO O' wr.heap.size (z, 2)) { x with q := ⟨A', Q.length + 1, c'⟩ } (w1.setCell ⟨nb, z * 5 + 2, none⟩ (.slice A' (Q.length + 1) c')) := by
  obtain ⟨r1, r2⟩ := h.st.kids h.hx h.hy h1 hg hf
  rw [List.set_set, List.set_set] at r1
  have hlt := h.lt
  have hfp : ∀ b, RE.fp x.q.A x.q.c = some b → lo ≤ b ∧ O' b = (z, 2) := fun b e => ⟨(h.row.q.2.1.fp_lt e).1, h.row.q.2.2 b e⟩
  have hsz : w.heap.size ≤ wr.heap.size := h.bel.size
  have hb2 : Below B w (w1.setCell ⟨nb, z * 5 + 2, none⟩ (.slice A' (Q.length + 1) c')) := h.bel.trans (r2.below (lo := B) (fun b e => by
    rcases e with e | e
    · omega
    · have := (hfp b e).1; omega) h.gb.le)
  refine ⟨r1, fun b hb => by rw [newO_old (by omega)]; exact h.ow b hb, r2.keep h.rb (fun e => ?_), hb2, h.rd.chg r2 (fun a ha e => ?_), h.gb.bel (r2.below (lo := B) (fun b e => by
    rcases e with e | e
    · omega
    · have := (hfp b e).1; omega) h.gb.le), h.lt, h.wo⟩
  · rcases e with e | e
    · omega
    · have := (hfp g e).1; omega
  · obtain ⟨q1, q2, q3⟩ := h.wo a ha
    rcases e with e | e
    · exact q1 e
    · have := (hfp _ e).2
      rw [h.ow _ q2] at this
      rw [this] at q3
      simp at q3
theorem InS.blk_piv {w1 : World} (h : InS nV aV B lo nb g z t ln w O ns ys y0 A ws P Q O' x wr) (hg : wr.grownBy w1 (RE.fp x.p.A x.p.c)) : NB w1 nb (ns.set z x) :=
  h.st.blk.chg (Chg.grown hg) (fun e => by have := (h.row.p.2.1.fp_lt e).1; have := h.st.lt; omega)
theorem InS.piv {w1 : World} {A' : Option Addr} {c' : Nat} {p : ByteArray} (h : InS nV aV B lo nb g z t ln w O ns ys y0 A ws P Q O' x wr) (h1 : ES.Row w1 lo A' (P ++ [p]) c') (hg : wr.grownBy w1 (RE.fp x.p.A x.p.c)) (hf : RE.fp A' c' = none ∨ RE.fp A' c' = RE.fp x.p.A x.p.c ∨ RE.fp A' c' = some wr.heap.size) :
    InS nV aV B lo nb g z t ln w O ns ys y0 A ws (P ++ [p]) Q (newO O' wr.heap.size (z, 1)) { x with p := ⟨A', P.length + 1, c'⟩ } (w1.setCell ⟨nb, z * 5 + 1, none⟩ (.slice A' (P.length + 1) c')) := by
  obtain ⟨r1, r2⟩ := h.st.piv h.hx h.hy h1 hg hf
  rw [List.set_set, List.set_set] at r1
  have hlt := h.lt
  have hfp : ∀ b, RE.fp x.p.A x.p.c = some b → lo ≤ b ∧ O' b = (z, 1) := fun b e => ⟨(h.row.p.2.1.fp_lt e).1, h.row.p.2.2 b e⟩
  have hsz : w.heap.size ≤ wr.heap.size := h.bel.size
  have hb2 : Below B w (w1.setCell ⟨nb, z * 5 + 1, none⟩ (.slice A' (P.length + 1) c')) := h.bel.trans (r2.below (lo := B) (fun b e => by
    rcases e with e | e
    · omega
    · have := (hfp b e).1; omega) h.gb.le)
  refine ⟨r1, fun b hb => by rw [newO_old (by omega)]; exact h.ow b hb, r2.keep h.rb (fun e => ?_), hb2, h.rd.chg r2 (fun a ha e => ?_), h.gb.bel (r2.below (lo := B) (fun b e => by
    rcases e with e | e
    · omega
    · have := (hfp b e).1; omega) h.gb.le), h.lt, h.wo⟩
  · rcases e with e | e
    · omega
    · have := (hfp g e).1; omega
  · obtain ⟨q1, q2, q3⟩ := h.wo a ha
    rcases e with e | e
    · exact q1 e
    · have := (hfp _ e).2
      rw [h.ow _ q2] at this
      rw [this] at q3
      simp at q3
end
/-- What an inner node's words make. -/
def RIn (nV aV : Value) (lo nb g z : Nat) (t : ByteArray) (ln : Int) (w : World) (O : Nat → Nat × Nat) (ns : List NC) (ys : List NdV) (y0 : NdV) (r : Option (List ByteArray × List Int)) (e : Ending) (w' : World) : Prop :=
  match r with
  | none => e = .panicked [FP ln 3]
  | some x => e = .returned (.tuple #[]) ∧ RB nV aV w' g t ln ∧ ∃ O' x', NS w' lo nb O' (ns.set z x') (ys.set z { y0 with k := 2, piv := x.1, kids := x.2 }) ∧ ∀ b, b < w.heap.size → O' b = O b
set_option maxHeartbeats 3000000 in
set_option maxRecDepth 100000 in
theorem rinner_any {B lo nb g z n c : Nat} {t : ByteArray} {ln : Int} {w : World} {O : Nat → Nat × Nat} {ns : List NC} {ys : List NdV} {x0 : NC} {y0 : NdV} (A : Option Addr) (ws : List ByteArray) (hS : NS w lo nb O ns ys) (hx : ns[z]? = some x0) (hy : ys[z]? = some y0) (he : y0.piv = [] ∧ y0.kids = []) (hr : RB nV aV w g t ln) (hb : GB B w) (hlt : B ≤ nb ∧ B ≤ lo ∧ g < lo ∧ g ≠ nb) (hlo : lo ≤ w.heap.size) (hl : ws.length = n) (hn : n ≤ 900000) (hA : ES.Rd w A ws) (hO : ∀ a, A = some a → a.block ≠ nb ∧ a.block < w.heap.size ∧ (O a.block).2 = 0) (hs : ∀ x ∈ ws, x.size ≤ 1000000) :
    Calls Tryz.prog 54 #[.pointer (some ⟨g, 0, none⟩), .pointer (some ⟨nb, z * 5, none⟩), .slice A n c] w fun e w' => RIn nV aV lo nb g z t ln w O ns ys y0 (inB true ws) e w' ∧ Below B w w' := by
  obtain ⟨r, hrr⟩ : ∃ r, inB true ws = r := ⟨_, rfl⟩
  rw [hrr]
  have HRR := Lib.hid hrr
  have c0 := hS.blk.c0 hx
  have f0 := hS.blk.fr (z * 5)
  have hz : z < ns.length := (List.getElem?_eq_some_iff.1 hx).1
  have HI : Hid (InS nV aV B lo nb g z t ln w O ns ys y0 A ws [] [] O { x0 with k := 2 } (w.setCell ⟨nb, z * 5, none⟩ (.int .u8 2))) := Lib.hid (by
    have C : Chg (fun b => b = nb) w (w.setCell ⟨nb, z * 5, none⟩ (.int .u8 2)) := Chg.set _ _ rfl
    have k := hS.kind hx hy 2
    have hb3 := C.below (lo := B) (fun b e => by omega) hb.le
    refine ⟨?_, fun _ _ => rfl, C.keep hr (fun e => by omega), hb3, hA.chg C (fun a ha e => (hO a ha).1 e), hb.bel hb3, ⟨hlt.1, hlt.2.1, hlt.2.2.1, hlt.2.2.2, hz⟩, hO⟩
    have q : { y0 with k := 2, piv := [], kids := [] } = { y0 with k := 2 } := by obtain ⟨h1, h2⟩ := he; cases y0; simp at h1 h2; subst h1 h2; rfl
    rw [q]
    exact k)
  have HN := Lib.hid (And.intro hl hn)
  have HS := Lib.hid hs
  have HLO := Lib.hid hlo
  clear hS hx hy he hr hb hlt hlo hA hO hs hz hl hn hrr
  go_enter Tryz.func54, Tryz.ntmps54
  go_upto_region 2 with fail
  obtain ⟨W0, hW0⟩ : ∃ W0, W0 = w.setCell ⟨nb, z * 5, none⟩ (.int .u8 2) := ⟨_, rfl⟩
  rw [← hW0] at HI ⊢
  clear hW0 c0 f0
  go_loopw [6, 7, 13] (fun uv vv iv wr => ∃ (k : Nat) (P : List ByteArray) (Q : List Int) (O' : Nat → Nat × Nat) (x : NC), k ≤ n ∧ iv = .int .i64 (k : Int) ∧ Hid (inB true (ws.take k) = some (P, Q)) ∧ Hid (P.length + Q.length = k) ∧ Hid (InS nV aV B lo nb g z t ln w O ns ys y0 A ws P Q O' x wr)) (fun _ _ iv _ => n - (intOf iv).toNat)
  case atStart => exact ⟨0, [], [], O, _, by omega, rfl, Lib.hid rfl, Lib.hid rfl, HI⟩
  case round =>
    obtain ⟨k, P, Q, O', x, hk, rfl, HP, HL, IR⟩ := hrel
    clear HI
    have hNN := HN.out
    by_cases h8 : k < n
    · have hk1 : (k : Int) < (n : Int) := by omega
      have hk0 : (0 : Int) ≤ (k : Int) := by omega
      have WK : IntKind.i64.wrap ((k : Int) + 1) = (k : Int) + 1 := IntWalk.i64_in _ (by omega)
      obtain ⟨a, ha⟩ : ∃ a, ws[k]? = some a := ⟨_, List.getElem?_eq_getElem (by omega)⟩
      obtain ⟨b3, off, hA3, hlt3, g0⟩ := es_at IR.out.rd ha
      have hsz := HS.out a (List.mem_of_getElem? ha)
      have HKN := Lib.hid (And.intro h8 hNN)
      subst hA3
      rcases Nat.mod_two_eq_zero_or_one k with he | he
      · have hn2 := in_kid HP.out ha he
        have e1 : (k : Int).tmod 2 = 0 := by rw [Int.tmod_eq_emod_of_nonneg (by omega)]; omega
        have e3 : (k : Int) % 2 = 0 := by omega
        have HX := Lib.hid (fun V (hV : Below wr.heap.size wr V) => rnumber_any (s := a) 0 2147483647 (IR.out.rb.later hV) (IR.out.gb.later hV) (by omega))
        unfold RN at HX
        have hstop : inB true (ws.take (k + 1)) = none → r = none := fun h => by rw [← HRR.out]; exact in_stop h
        clear ha hsz he h8 hNN hlt3
        cases hq : rgB 0 2147483647 a with
        | none =>
          rw [hq] at HX hn2
          have HNo := hstop hn2
          clear hn2 hstop hq
          subst HNo
          go_upto_region 5 with fail
          clear g0
          refine wp_region_held_drew (S := fun _ : World => True) (by kernel_rfl) trivial (fun hHeld => ?_)
          clear hHeld
          refine wT (i := 0) (oi := { dst := some 21, op := Op.move (Operand.tmp 1), type := 95, pos := "parse.go:120", after := #[], guard := none }) (v := ?_) rfl (Or.inl ⟨by rfl, ?_⟩) trivial ?_
          rotate_left
          · intro w hSw; clear hSw; go_simp; try with_reducible rfl
          try simp only [pu, pn, s1, s2, s3]
          refine wT (i := 1) (oi := { dst := some 22, op := Op.move (Operand.tmp 1), type := 95, pos := "parse.go:120", after := #[], guard := none }) (v := ?_) rfl (Or.inl ⟨by rfl, ?_⟩) trivial ?_
          rotate_left
          · intro w hSw; clear hSw; go_simp; try with_reducible rfl
          try simp only [pu, pn, s1, s2, s3]
          refine wT (i := 2) (oi := { dst := some 23, op := Op.nilCheck (Operand.tmp 22), type := 0, pos := "parse.go:120", after := #[{ on := 1, ground := Ground.data }], guard := none }) (v := ?_) rfl (Or.inl ⟨by rfl, ?_⟩) trivial ?_
          rotate_left
          · intro w hSw; clear hSw; go_simp; try with_reducible rfl
          try simp only [pu, pn, s1, s2, s3]
          refine wT (i := 3) (oi := { dst := some 24, op := Op.fieldAddr 44 (Operand.tmp 23) 2, type := 0, pos := "parse.go:120", after := #[{ on := 2, ground := Ground.data }], guard := none }) (v := ?_) rfl (Or.inl ⟨by rfl, ?_⟩) trivial ?_
          rotate_left
          · intro w hSw; clear hSw; go_simp; try with_reducible rfl
          try simp only [pu, pn, s1, s2, s3]
          refine wT (i := 5) (oi := { dst := some 26, op := Op.move (Operand.tmp 0), type := 64, pos := "parse.go:120", after := #[], guard := none }) (v := ?_) rfl (Or.inl ⟨by rfl, ?_⟩) trivial ?_
          rotate_left
          · intro w hSw; clear hSw; go_simp; try with_reducible rfl
          try simp only [pu, pn, s1, s2, s3]
          refine wT (i := 6) (oi := { dst := some 27, op := Op.move (Operand.tmp 7), type := 9, pos := "parse.go:120", after := #[], guard := none }) (v := ?_) rfl (Or.inl ⟨by rfl, ?_⟩) trivial ?_
          rotate_left
          · intro w hSw; clear hSw; go_simp; try with_reducible rfl
          try simp only [pu, pn, s1, s2, s3]
          refine wpAnyH_ready (rs := [4, 7]) (by kernel_rfl) (by simp) ?_
          refine (AllReadyH.cons (o := { dst := some 25, op := Op.load 40 (Operand.tmp 24), type := 40, pos := "parse.go:120", after := #[{ on := 3, ground := Ground.data }], guard := none }) rfl (fun K hK => ?_) (AllReadyH.cons (o := { dst := some 28, op := Op.call { callee := Callee.value (Operand.func 52), args := #[Operand.tmp 26, Operand.tmp 27, Operand.const (Value.int IntKind.i64 0), Operand.const (Value.int IntKind.i64 2147483647)], argTypes := #[64, 9, 3, 3] }, type := 3, pos := "parse.go:120", after := #[{ on := 5, ground := Ground.data }, { on := 6, ground := Ground.data }], guard := none }) rfl (fun K hK => ?_) AllReadyH.nil))
          · have c2 := IR.out.st.blk.c2 IR.out.hx
            rw [show (x.q.n) = Q.length from IR.out.row.q.1] at c2
            go_simp
            clear c2
            refine hK.out _ _ trivial (fun hHeld => ?_)
            clear hHeld hK K
            try simp only [pu, pn, s1, s2, s3]
            refine wpAnyH_ready (rs := [7]) (by kernel_rfl) (by simp) ?_
            refine (AllReadyH.cons (o := { dst := some 28, op := Op.call { callee := Callee.value (Operand.func 52), args := #[Operand.tmp 26, Operand.tmp 27, Operand.const (Value.int IntKind.i64 0), Operand.const (Value.int IntKind.i64 2147483647)], argTypes := #[64, 9, 3, 3] }, type := 3, pos := "parse.go:120", after := #[{ on := 5, ground := Ground.data }, { on := 6, ground := Ground.data }], guard := none }) rfl (fun K hK => ?_) AllReadyH.nil)
            go_simp
            (go_at_call 52; ((with_reducible refine (HX.out _ (Below.refl _ wr).drew).mono ?_); rintro e w4 ⟨rfl, b4⟩; have B4 := bel_dr b4; have I4 := Lib.hid (IR.out.later B4); clear b4 B4))
            exact ⟨rfl, rfl, I4.out.bel⟩
          · go_simp
            (go_at_call 52; ((with_reducible refine (HX.out _ (Below.refl _ wr).drew).mono ?_); rintro e w4 ⟨rfl, b4⟩; have B4 := bel_dr b4; have I4 := Lib.hid (IR.out.later B4); clear b4 B4))
            exact ⟨rfl, rfl, I4.out.bel⟩
        | some q =>
          rw [hq] at HX hn2
          have HN2 : Hid (inB true (ws.take (k + 1)) = some (P, Q ++ [q])) := Lib.hid hn2
          clear hn2 hstop hq
          go_upto_region 5 with fail
          clear g0
          refine wp_region_held_drew (S := fun _ : World => True) (by kernel_rfl) trivial (fun hHeld => ?_)
          clear hHeld
          refine wT (i := 0) (oi := { dst := some 21, op := Op.move (Operand.tmp 1), type := 95, pos := "parse.go:120", after := #[], guard := none }) (v := ?_) rfl (Or.inl ⟨by rfl, ?_⟩) trivial ?_
          rotate_left
          · intro w hSw; clear hSw; go_simp; try with_reducible rfl
          try simp only [pu, pn, s1, s2, s3]
          refine wT (i := 1) (oi := { dst := some 22, op := Op.move (Operand.tmp 1), type := 95, pos := "parse.go:120", after := #[], guard := none }) (v := ?_) rfl (Or.inl ⟨by rfl, ?_⟩) trivial ?_
          rotate_left
          · intro w hSw; clear hSw; go_simp; try with_reducible rfl
          try simp only [pu, pn, s1, s2, s3]
          refine wT (i := 2) (oi := { dst := some 23, op := Op.nilCheck (Operand.tmp 22), type := 0, pos := "parse.go:120", after := #[{ on := 1, ground := Ground.data }], guard := none }) (v := ?_) rfl (Or.inl ⟨by rfl, ?_⟩) trivial ?_
          rotate_left
          · intro w hSw; clear hSw; go_simp; try with_reducible rfl
          try simp only [pu, pn, s1, s2, s3]
          refine wT (i := 3) (oi := { dst := some 24, op := Op.fieldAddr 44 (Operand.tmp 23) 2, type := 0, pos := "parse.go:120", after := #[{ on := 2, ground := Ground.data }], guard := none }) (v := ?_) rfl (Or.inl ⟨by rfl, ?_⟩) trivial ?_
          rotate_left
          · intro w hSw; clear hSw; go_simp; try with_reducible rfl
          try simp only [pu, pn, s1, s2, s3]
          refine wT (i := 5) (oi := { dst := some 26, op := Op.move (Operand.tmp 0), type := 64, pos := "parse.go:120", after := #[], guard := none }) (v := ?_) rfl (Or.inl ⟨by rfl, ?_⟩) trivial ?_
          rotate_left
          · intro w hSw; clear hSw; go_simp; try with_reducible rfl
          try simp only [pu, pn, s1, s2, s3]
          refine wT (i := 6) (oi := { dst := some 27, op := Op.move (Operand.tmp 7), type := 9, pos := "parse.go:120", after := #[], guard := none }) (v := ?_) rfl (Or.inl ⟨by rfl, ?_⟩) trivial ?_
          rotate_left
          · intro w hSw; clear hSw; go_simp; try with_reducible rfl
          try simp only [pu, pn, s1, s2, s3]
          refine wpAnyH_ready (rs := [4, 7]) (by kernel_rfl) (by simp) ?_
          refine (AllReadyH.cons (o := { dst := some 25, op := Op.load 40 (Operand.tmp 24), type := 40, pos := "parse.go:120", after := #[{ on := 3, ground := Ground.data }], guard := none }) rfl (fun K hK => ?_) (AllReadyH.cons (o := { dst := some 28, op := Op.call { callee := Callee.value (Operand.func 52), args := #[Operand.tmp 26, Operand.tmp 27, Operand.const (Value.int IntKind.i64 0), Operand.const (Value.int IntKind.i64 2147483647)], argTypes := #[64, 9, 3, 3] }, type := 3, pos := "parse.go:120", after := #[{ on := 5, ground := Ground.data }, { on := 6, ground := Ground.data }], guard := none }) rfl (fun K hK => ?_) AllReadyH.nil))
          · have c2 := IR.out.st.blk.c2 IR.out.hx
            rw [show (x.q.n) = Q.length from IR.out.row.q.1] at c2
            go_simp
            clear c2
            refine hK.out _ _ trivial (fun hHeld => ?_)
            clear hHeld hK K
            try simp only [pu, pn, s1, s2, s3]
            refine wpAnyH_ready (rs := [7]) (by kernel_rfl) (by simp) ?_
            refine (AllReadyH.cons (o := { dst := some 28, op := Op.call { callee := Callee.value (Operand.func 52), args := #[Operand.tmp 26, Operand.tmp 27, Operand.const (Value.int IntKind.i64 0), Operand.const (Value.int IntKind.i64 2147483647)], argTypes := #[64, 9, 3, 3] }, type := 3, pos := "parse.go:120", after := #[{ on := 5, ground := Ground.data }, { on := 6, ground := Ground.data }], guard := none }) rfl (fun K hK => ?_) AllReadyH.nil)
            go_simp
            (go_at_call 52; ((with_reducible refine (HX.out _ (Below.refl _ wr).drew).mono ?_); rintro e w4 ⟨rfl, b4⟩; have B4 := bel_dr b4; have I4 := Lib.hid (IR.out.later B4); clear b4 B4))
            refine hK.out _ _ trivial (fun hHeld => ?_)
            clear hHeld hK K
            try simp only [pu, pn, s1, s2, s3]
            refine wpAnyH_ready (rs := [8]) (by kernel_rfl) (by simp) ?_
            refine (AllReadyH.cons (o := { dst := some 29, op := Op.buildSlice 40 1 #[(0, Operand.tmp 28)], type := 40, pos := "parse.go:120", after := #[{ on := 7, ground := Ground.data }], guard := none }) rfl (fun K hK => ?_) AllReadyH.nil)
            go_simp
            obtain ⟨w5, hw5⟩ : ∃ W, W = w4.alloc (.cells #[.int .i64 q] 3) := ⟨_, rfl⟩
            have I5 := Lib.hid (I4.out.later (by rw [hw5]; exact alb w4 _) : InS nV aV B lo nb g z t ln w O ns ys y0 (some ⟨b3, off, none⟩) ws P Q O' x w5)
            have RV := Lib.hid (show EI.Rd w5 (some ⟨w4.heap.size, 0, none⟩) [q] by rw [hw5]; exact RE.Rd.lit (E := EI) w4 3 [q] #[.int .i64 q] rfl)
            rw [← hw5]
            clear hw5
            refine hK.out _ _ trivial (fun hHeld => ?_)
            clear hHeld hK K
            try simp only [pu, pn, s1, s2, s3]
            refine wpAnyH_ready (rs := [9]) (by kernel_rfl) (by simp) ?_
            refine (AllReadyH.cons (o := { dst := some 30, op := Op.call { callee := Callee.builtin Builtin.append, args := #[Operand.tmp 25, Operand.tmp 29], argTypes := #[40, 40] }, type := 40, pos := "parse.go:120", after := #[{ on := 4, ground := Ground.data }, { on := 8, ground := Ground.data }, { on := 7, ground := Ground.chain }], guard := none }) rfl (fun K hK => ?_) AllReadyH.nil)
            refine RE.step_put EI _ rfl (.tmp 25) (.tmp 29) rfl (base := lo) x.q.A Q.length x.q.c Q (some ⟨w4.heap.size, 0, none⟩) 1 1 [q] (by simp [Act.eval, Act.put]) (by simp [Act.eval, Act.put]) I5.out.row.q.2.1 rfl (by have := HL.out; have := HKN.out; omega) (I5.out.loLe HLO.out) rfl (by omega) RV.out ?_
            intro A3 c3 w7 r1 r2 r3
            have c7 := (I5.out.blk_kid r2).c2 I5.out.hx
            have f7 := (I5.out.blk_kid r2).fr (z * 5 + 2)
            have I8 := Lib.hid (I5.out.kid r1 r2 r3)
            clear r1 r2 r3
            refine hK.out _ _ trivial (fun hHeld => ?_)
            clear hHeld hK K
            try simp only [pu, pn, s1, s2, s3]
            refine wT (i := 10) (oi := { dst := some 31, op := Op.nilCheck (Operand.tmp 21), type := 0, pos := "parse.go:120", after := #[{ on := 0, ground := Ground.data }, { on := 0, ground := Ground.phase }, { on := 1, ground := Ground.phase }, { on := 2, ground := Ground.phase }, { on := 3, ground := Ground.phase }, { on := 4, ground := Ground.phase }, { on := 5, ground := Ground.phase }, { on := 6, ground := Ground.phase }, { on := 7, ground := Ground.phase }, { on := 8, ground := Ground.phase }, { on := 9, ground := Ground.phase }], guard := none }) (v := ?_) rfl (Or.inl ⟨by rfl, ?_⟩) trivial ?_
            rotate_left
            · intro w hSw; clear hSw; go_simp; try with_reducible rfl
            try simp only [pu, pn, s1, s2, s3]
            refine wT (i := 11) (oi := { dst := some 32, op := Op.fieldAddr 44 (Operand.tmp 31) 2, type := 0, pos := "parse.go:120", after := #[{ on := 10, ground := Ground.data }, { on := 0, ground := Ground.phase }, { on := 1, ground := Ground.phase }, { on := 2, ground := Ground.phase }, { on := 3, ground := Ground.phase }, { on := 4, ground := Ground.phase }, { on := 5, ground := Ground.phase }, { on := 6, ground := Ground.phase }, { on := 7, ground := Ground.phase }, { on := 8, ground := Ground.phase }, { on := 9, ground := Ground.phase }], guard := none }) (v := ?_) rfl (Or.inl ⟨by rfl, ?_⟩) trivial ?_
            rotate_left
            · intro w hSw; clear hSw; go_simp; try with_reducible rfl
            try simp only [pu, pn, s1, s2, s3]
            refine wpAnyH_ready (rs := [12]) (by kernel_rfl) (by simp) ?_
            refine (AllReadyH.cons (o := { dst := none, op := Op.store 40 (Operand.tmp 32) (Operand.tmp 30), type := 0, pos := "parse.go:120", after := #[{ on := 11, ground := Ground.data }, { on := 9, ground := Ground.data }, { on := 9, ground := Ground.chain }, { on := 0, ground := Ground.phase }, { on := 1, ground := Ground.phase }, { on := 2, ground := Ground.phase }, { on := 3, ground := Ground.phase }, { on := 4, ground := Ground.phase }, { on := 5, ground := Ground.phase }, { on := 6, ground := Ground.phase }, { on := 7, ground := Ground.phase }, { on := 8, ground := Ground.phase }, { on := 9, ground := Ground.phase }], guard := none }) rfl (fun K hK => ?_) AllReadyH.nil)
            go_simp
            clear c7 f7
            obtain ⟨w8, hw8⟩ : ∃ W, W = w7.setCell ⟨nb, z * 5 + 2, none⟩ (.slice A3 (Q.length + 1) c3) := ⟨_, rfl⟩
            rw [← hw8] at I8 ⊢
            clear hw8
            refine hK.out _ _ trivial (fun hHeld => ?_)
            clear hHeld hK K
            try simp only [pu, pn, s1, s2, s3]
            refine wpAnyH_done (by kernel_rfl) ?_ _
            go_wp2
            exact ⟨⟨k + 1, _, _, _, _, by omega, by simp, HN2, Lib.hid (by have := HL.out; simp; omega), I8⟩, by simp [intOf]; omega⟩
          · go_simp
            (go_at_call 52; ((with_reducible refine (HX.out _ (Below.refl _ wr).drew).mono ?_); rintro e w4 ⟨rfl, b4⟩; have B4 := bel_dr b4; have I4 := Lib.hid (IR.out.later B4); clear b4 B4))
            refine hK.out _ _ trivial (fun hHeld => ?_)
            clear hHeld hK K
            try simp only [pu, pn, s1, s2, s3]
            refine wpAnyH_ready (rs := [4, 8]) (by kernel_rfl) (by simp) ?_
            refine (AllReadyH.cons (o := { dst := some 25, op := Op.load 40 (Operand.tmp 24), type := 40, pos := "parse.go:120", after := #[{ on := 3, ground := Ground.data }], guard := none }) rfl (fun K hK => ?_) (AllReadyH.cons (o := { dst := some 29, op := Op.buildSlice 40 1 #[(0, Operand.tmp 28)], type := 40, pos := "parse.go:120", after := #[{ on := 7, ground := Ground.data }], guard := none }) rfl (fun K hK => ?_) AllReadyH.nil))
            · have c2 := I4.out.st.blk.c2 I4.out.hx
              rw [show (x.q.n) = Q.length from I4.out.row.q.1] at c2
              go_simp
              clear c2
              refine hK.out _ _ trivial (fun hHeld => ?_)
              clear hHeld hK K
              try simp only [pu, pn, s1, s2, s3]
              refine wpAnyH_ready (rs := [8]) (by kernel_rfl) (by simp) ?_
              refine (AllReadyH.cons (o := { dst := some 29, op := Op.buildSlice 40 1 #[(0, Operand.tmp 28)], type := 40, pos := "parse.go:120", after := #[{ on := 7, ground := Ground.data }], guard := none }) rfl (fun K hK => ?_) AllReadyH.nil)
              go_simp
              obtain ⟨w5, hw5⟩ : ∃ W, W = w4.alloc (.cells #[.int .i64 q] 3) := ⟨_, rfl⟩
              have I5 := Lib.hid (I4.out.later (by rw [hw5]; exact alb w4 _) : InS nV aV B lo nb g z t ln w O ns ys y0 (some ⟨b3, off, none⟩) ws P Q O' x w5)
              have RV := Lib.hid (show EI.Rd w5 (some ⟨w4.heap.size, 0, none⟩) [q] by rw [hw5]; exact RE.Rd.lit (E := EI) w4 3 [q] #[.int .i64 q] rfl)
              rw [← hw5]
              clear hw5
              refine hK.out _ _ trivial (fun hHeld => ?_)
              clear hHeld hK K
              try simp only [pu, pn, s1, s2, s3]
              refine wpAnyH_ready (rs := [9]) (by kernel_rfl) (by simp) ?_
              refine (AllReadyH.cons (o := { dst := some 30, op := Op.call { callee := Callee.builtin Builtin.append, args := #[Operand.tmp 25, Operand.tmp 29], argTypes := #[40, 40] }, type := 40, pos := "parse.go:120", after := #[{ on := 4, ground := Ground.data }, { on := 8, ground := Ground.data }, { on := 7, ground := Ground.chain }], guard := none }) rfl (fun K hK => ?_) AllReadyH.nil)
              refine RE.step_put EI _ rfl (.tmp 25) (.tmp 29) rfl (base := lo) x.q.A Q.length x.q.c Q (some ⟨w4.heap.size, 0, none⟩) 1 1 [q] (by simp [Act.eval, Act.put]) (by simp [Act.eval, Act.put]) I5.out.row.q.2.1 rfl (by have := HL.out; have := HKN.out; omega) (I5.out.loLe HLO.out) rfl (by omega) RV.out ?_
              intro A3 c3 w7 r1 r2 r3
              have c7 := (I5.out.blk_kid r2).c2 I5.out.hx
              have f7 := (I5.out.blk_kid r2).fr (z * 5 + 2)
              have I8 := Lib.hid (I5.out.kid r1 r2 r3)
              clear r1 r2 r3
              refine hK.out _ _ trivial (fun hHeld => ?_)
              clear hHeld hK K
              try simp only [pu, pn, s1, s2, s3]
              refine wT (i := 10) (oi := { dst := some 31, op := Op.nilCheck (Operand.tmp 21), type := 0, pos := "parse.go:120", after := #[{ on := 0, ground := Ground.data }, { on := 0, ground := Ground.phase }, { on := 1, ground := Ground.phase }, { on := 2, ground := Ground.phase }, { on := 3, ground := Ground.phase }, { on := 4, ground := Ground.phase }, { on := 5, ground := Ground.phase }, { on := 6, ground := Ground.phase }, { on := 7, ground := Ground.phase }, { on := 8, ground := Ground.phase }, { on := 9, ground := Ground.phase }], guard := none }) (v := ?_) rfl (Or.inl ⟨by rfl, ?_⟩) trivial ?_
              rotate_left
              · intro w hSw; clear hSw; go_simp; try with_reducible rfl
              try simp only [pu, pn, s1, s2, s3]
              refine wT (i := 11) (oi := { dst := some 32, op := Op.fieldAddr 44 (Operand.tmp 31) 2, type := 0, pos := "parse.go:120", after := #[{ on := 10, ground := Ground.data }, { on := 0, ground := Ground.phase }, { on := 1, ground := Ground.phase }, { on := 2, ground := Ground.phase }, { on := 3, ground := Ground.phase }, { on := 4, ground := Ground.phase }, { on := 5, ground := Ground.phase }, { on := 6, ground := Ground.phase }, { on := 7, ground := Ground.phase }, { on := 8, ground := Ground.phase }, { on := 9, ground := Ground.phase }], guard := none }) (v := ?_) rfl (Or.inl ⟨by rfl, ?_⟩) trivial ?_
              rotate_left
              · intro w hSw; clear hSw; go_simp; try with_reducible rfl
              try simp only [pu, pn, s1, s2, s3]
              refine wpAnyH_ready (rs := [12]) (by kernel_rfl) (by simp) ?_
              refine (AllReadyH.cons (o := { dst := none, op := Op.store 40 (Operand.tmp 32) (Operand.tmp 30), type := 0, pos := "parse.go:120", after := #[{ on := 11, ground := Ground.data }, { on := 9, ground := Ground.data }, { on := 9, ground := Ground.chain }, { on := 0, ground := Ground.phase }, { on := 1, ground := Ground.phase }, { on := 2, ground := Ground.phase }, { on := 3, ground := Ground.phase }, { on := 4, ground := Ground.phase }, { on := 5, ground := Ground.phase }, { on := 6, ground := Ground.phase }, { on := 7, ground := Ground.phase }, { on := 8, ground := Ground.phase }, { on := 9, ground := Ground.phase }], guard := none }) rfl (fun K hK => ?_) AllReadyH.nil)
              go_simp
              clear c7 f7
              obtain ⟨w8, hw8⟩ : ∃ W, W = w7.setCell ⟨nb, z * 5 + 2, none⟩ (.slice A3 (Q.length + 1) c3) := ⟨_, rfl⟩
              rw [← hw8] at I8 ⊢
              clear hw8
              refine hK.out _ _ trivial (fun hHeld => ?_)
              clear hHeld hK K
              try simp only [pu, pn, s1, s2, s3]
              refine wpAnyH_done (by kernel_rfl) ?_ _
              go_wp2
              exact ⟨⟨k + 1, _, _, _, _, by omega, by simp, HN2, Lib.hid (by have := HL.out; simp; omega), I8⟩, by simp [intOf]; omega⟩
            · go_simp
              obtain ⟨w5, hw5⟩ : ∃ W, W = w4.alloc (.cells #[.int .i64 q] 3) := ⟨_, rfl⟩
              have I5 := Lib.hid (I4.out.later (by rw [hw5]; exact alb w4 _) : InS nV aV B lo nb g z t ln w O ns ys y0 (some ⟨b3, off, none⟩) ws P Q O' x w5)
              have RV := Lib.hid (show EI.Rd w5 (some ⟨w4.heap.size, 0, none⟩) [q] by rw [hw5]; exact RE.Rd.lit (E := EI) w4 3 [q] #[.int .i64 q] rfl)
              rw [← hw5]
              clear hw5
              refine hK.out _ _ trivial (fun hHeld => ?_)
              clear hHeld hK K
              try simp only [pu, pn, s1, s2, s3]
              refine wpAnyH_ready (rs := [4]) (by kernel_rfl) (by simp) ?_
              refine (AllReadyH.cons (o := { dst := some 25, op := Op.load 40 (Operand.tmp 24), type := 40, pos := "parse.go:120", after := #[{ on := 3, ground := Ground.data }], guard := none }) rfl (fun K hK => ?_) AllReadyH.nil)
              have c2 := I5.out.st.blk.c2 I5.out.hx
              rw [show (x.q.n) = Q.length from I5.out.row.q.1] at c2
              go_simp
              clear c2
              refine hK.out _ _ trivial (fun hHeld => ?_)
              clear hHeld hK K
              try simp only [pu, pn, s1, s2, s3]
              refine wpAnyH_ready (rs := [9]) (by kernel_rfl) (by simp) ?_
              refine (AllReadyH.cons (o := { dst := some 30, op := Op.call { callee := Callee.builtin Builtin.append, args := #[Operand.tmp 25, Operand.tmp 29], argTypes := #[40, 40] }, type := 40, pos := "parse.go:120", after := #[{ on := 4, ground := Ground.data }, { on := 8, ground := Ground.data }, { on := 7, ground := Ground.chain }], guard := none }) rfl (fun K hK => ?_) AllReadyH.nil)
              refine RE.step_put EI _ rfl (.tmp 25) (.tmp 29) rfl (base := lo) x.q.A Q.length x.q.c Q (some ⟨w4.heap.size, 0, none⟩) 1 1 [q] (by simp [Act.eval, Act.put]) (by simp [Act.eval, Act.put]) I5.out.row.q.2.1 rfl (by have := HL.out; have := HKN.out; omega) (I5.out.loLe HLO.out) rfl (by omega) RV.out ?_
              intro A3 c3 w7 r1 r2 r3
              have c7 := (I5.out.blk_kid r2).c2 I5.out.hx
              have f7 := (I5.out.blk_kid r2).fr (z * 5 + 2)
              have I8 := Lib.hid (I5.out.kid r1 r2 r3)
              clear r1 r2 r3
              refine hK.out _ _ trivial (fun hHeld => ?_)
              clear hHeld hK K
              try simp only [pu, pn, s1, s2, s3]
              refine wT (i := 10) (oi := { dst := some 31, op := Op.nilCheck (Operand.tmp 21), type := 0, pos := "parse.go:120", after := #[{ on := 0, ground := Ground.data }, { on := 0, ground := Ground.phase }, { on := 1, ground := Ground.phase }, { on := 2, ground := Ground.phase }, { on := 3, ground := Ground.phase }, { on := 4, ground := Ground.phase }, { on := 5, ground := Ground.phase }, { on := 6, ground := Ground.phase }, { on := 7, ground := Ground.phase }, { on := 8, ground := Ground.phase }, { on := 9, ground := Ground.phase }], guard := none }) (v := ?_) rfl (Or.inl ⟨by rfl, ?_⟩) trivial ?_
              rotate_left
              · intro w hSw; clear hSw; go_simp; try with_reducible rfl
              try simp only [pu, pn, s1, s2, s3]
              refine wT (i := 11) (oi := { dst := some 32, op := Op.fieldAddr 44 (Operand.tmp 31) 2, type := 0, pos := "parse.go:120", after := #[{ on := 10, ground := Ground.data }, { on := 0, ground := Ground.phase }, { on := 1, ground := Ground.phase }, { on := 2, ground := Ground.phase }, { on := 3, ground := Ground.phase }, { on := 4, ground := Ground.phase }, { on := 5, ground := Ground.phase }, { on := 6, ground := Ground.phase }, { on := 7, ground := Ground.phase }, { on := 8, ground := Ground.phase }, { on := 9, ground := Ground.phase }], guard := none }) (v := ?_) rfl (Or.inl ⟨by rfl, ?_⟩) trivial ?_
              rotate_left
              · intro w hSw; clear hSw; go_simp; try with_reducible rfl
              try simp only [pu, pn, s1, s2, s3]
              refine wpAnyH_ready (rs := [12]) (by kernel_rfl) (by simp) ?_
              refine (AllReadyH.cons (o := { dst := none, op := Op.store 40 (Operand.tmp 32) (Operand.tmp 30), type := 0, pos := "parse.go:120", after := #[{ on := 11, ground := Ground.data }, { on := 9, ground := Ground.data }, { on := 9, ground := Ground.chain }, { on := 0, ground := Ground.phase }, { on := 1, ground := Ground.phase }, { on := 2, ground := Ground.phase }, { on := 3, ground := Ground.phase }, { on := 4, ground := Ground.phase }, { on := 5, ground := Ground.phase }, { on := 6, ground := Ground.phase }, { on := 7, ground := Ground.phase }, { on := 8, ground := Ground.phase }, { on := 9, ground := Ground.phase }], guard := none }) rfl (fun K hK => ?_) AllReadyH.nil)
              go_simp
              clear c7 f7
              obtain ⟨w8, hw8⟩ : ∃ W, W = w7.setCell ⟨nb, z * 5 + 2, none⟩ (.slice A3 (Q.length + 1) c3) := ⟨_, rfl⟩
              rw [← hw8] at I8 ⊢
              clear hw8
              refine hK.out _ _ trivial (fun hHeld => ?_)
              clear hHeld hK K
              try simp only [pu, pn, s1, s2, s3]
              refine wpAnyH_done (by kernel_rfl) ?_ _
              go_wp2
              exact ⟨⟨k + 1, _, _, _, _, by omega, by simp, HN2, Lib.hid (by have := HL.out; simp; omega), I8⟩, by simp [intOf]; omega⟩
      · have hn2 := in_piv HP.out ha he
        have e1 : (k : Int).tmod 2 = 1 := by rw [Int.tmod_eq_emod_of_nonneg (by omega)]; omega
        have e3 : (k : Int) % 2 = 1 := by omega
        have HX := Lib.hid (fun V (hV : Below wr.heap.size wr V) => rtext_any (s := a) (IR.out.rb.later hV) (IR.out.gb.later hV) hsz)
        unfold RN at HX
        have hstop : inB true (ws.take (k + 1)) = none → r = none := fun h => by rw [← HRR.out]; exact in_stop h
        clear ha hsz he h8 hNN hlt3
        cases hq : txtB a with
        | none =>
          rw [hq] at HX hn2
          have HNo := hstop hn2
          clear hn2 hstop hq
          subst HNo
          go_upto_region 6 with fail
          clear g0
          refine wp_region_held_drew (S := fun _ : World => True) (by kernel_rfl) trivial (fun hHeld => ?_)
          clear hHeld
          refine wT (i := 0) (oi := { dst := some 33, op := Op.move (Operand.tmp 1), type := 95, pos := "parse.go:122", after := #[], guard := none }) (v := ?_) rfl (Or.inl ⟨by rfl, ?_⟩) trivial ?_
          rotate_left
          · intro w hSw; clear hSw; go_simp; try with_reducible rfl
          try simp only [pu, pn, s1, s2, s3]
          refine wT (i := 1) (oi := { dst := some 34, op := Op.move (Operand.tmp 1), type := 95, pos := "parse.go:122", after := #[], guard := none }) (v := ?_) rfl (Or.inl ⟨by rfl, ?_⟩) trivial ?_
          rotate_left
          · intro w hSw; clear hSw; go_simp; try with_reducible rfl
          try simp only [pu, pn, s1, s2, s3]
          refine wT (i := 2) (oi := { dst := some 35, op := Op.nilCheck (Operand.tmp 34), type := 0, pos := "parse.go:122", after := #[{ on := 1, ground := Ground.data }], guard := none }) (v := ?_) rfl (Or.inl ⟨by rfl, ?_⟩) trivial ?_
          rotate_left
          · intro w hSw; clear hSw; go_simp; try with_reducible rfl
          try simp only [pu, pn, s1, s2, s3]
          refine wT (i := 3) (oi := { dst := some 36, op := Op.fieldAddr 44 (Operand.tmp 35) 1, type := 0, pos := "parse.go:122", after := #[{ on := 2, ground := Ground.data }], guard := none }) (v := ?_) rfl (Or.inl ⟨by rfl, ?_⟩) trivial ?_
          rotate_left
          · intro w hSw; clear hSw; go_simp; try with_reducible rfl
          try simp only [pu, pn, s1, s2, s3]
          refine wT (i := 5) (oi := { dst := some 38, op := Op.move (Operand.tmp 0), type := 64, pos := "parse.go:122", after := #[], guard := none }) (v := ?_) rfl (Or.inl ⟨by rfl, ?_⟩) trivial ?_
          rotate_left
          · intro w hSw; clear hSw; go_simp; try with_reducible rfl
          try simp only [pu, pn, s1, s2, s3]
          refine wT (i := 6) (oi := { dst := some 39, op := Op.move (Operand.tmp 7), type := 9, pos := "parse.go:122", after := #[], guard := none }) (v := ?_) rfl (Or.inl ⟨by rfl, ?_⟩) trivial ?_
          rotate_left
          · intro w hSw; clear hSw; go_simp; try with_reducible rfl
          try simp only [pu, pn, s1, s2, s3]
          refine wpAnyH_ready (rs := [4, 7]) (by kernel_rfl) (by simp) ?_
          refine (AllReadyH.cons (o := { dst := some 37, op := Op.load 39 (Operand.tmp 36), type := 39, pos := "parse.go:122", after := #[{ on := 3, ground := Ground.data }], guard := none }) rfl (fun K hK => ?_) (AllReadyH.cons (o := { dst := some 40, op := Op.call { callee := Callee.value (Operand.func 74), args := #[Operand.tmp 38, Operand.tmp 39], argTypes := #[64, 9] }, type := 9, pos := "parse.go:122", after := #[{ on := 5, ground := Ground.data }, { on := 6, ground := Ground.data }], guard := none }) rfl (fun K hK => ?_) AllReadyH.nil))
          · have c2 := IR.out.st.blk.c1 IR.out.hx
            rw [show (x.p.n) = P.length from IR.out.row.p.1] at c2
            go_simp
            clear c2
            refine hK.out _ _ trivial (fun hHeld => ?_)
            clear hHeld hK K
            try simp only [pu, pn, s1, s2, s3]
            refine wpAnyH_ready (rs := [7]) (by kernel_rfl) (by simp) ?_
            refine (AllReadyH.cons (o := { dst := some 40, op := Op.call { callee := Callee.value (Operand.func 74), args := #[Operand.tmp 38, Operand.tmp 39], argTypes := #[64, 9] }, type := 9, pos := "parse.go:122", after := #[{ on := 5, ground := Ground.data }, { on := 6, ground := Ground.data }], guard := none }) rfl (fun K hK => ?_) AllReadyH.nil)
            go_simp
            (go_at_call 74; ((with_reducible refine (HX.out _ (Below.refl _ wr).drew).mono ?_); rintro e w4 ⟨rfl, b4⟩; have B4 := bel_dr b4; have I4 := Lib.hid (IR.out.later B4); clear b4 B4))
            exact ⟨rfl, rfl, I4.out.bel⟩
          · go_simp
            (go_at_call 74; ((with_reducible refine (HX.out _ (Below.refl _ wr).drew).mono ?_); rintro e w4 ⟨rfl, b4⟩; have B4 := bel_dr b4; have I4 := Lib.hid (IR.out.later B4); clear b4 B4))
            exact ⟨rfl, rfl, I4.out.bel⟩
        | some p =>
          rw [hq] at HX hn2
          have HN2 : Hid (inB true (ws.take (k + 1)) = some (P ++ [p], Q)) := Lib.hid hn2
          clear hn2 hstop hq
          go_upto_region 6 with fail
          clear g0
          refine wp_region_held_drew (S := fun _ : World => True) (by kernel_rfl) trivial (fun hHeld => ?_)
          clear hHeld
          refine wT (i := 0) (oi := { dst := some 33, op := Op.move (Operand.tmp 1), type := 95, pos := "parse.go:122", after := #[], guard := none }) (v := ?_) rfl (Or.inl ⟨by rfl, ?_⟩) trivial ?_
          rotate_left
          · intro w hSw; clear hSw; go_simp; try with_reducible rfl
          try simp only [pu, pn, s1, s2, s3]
          refine wT (i := 1) (oi := { dst := some 34, op := Op.move (Operand.tmp 1), type := 95, pos := "parse.go:122", after := #[], guard := none }) (v := ?_) rfl (Or.inl ⟨by rfl, ?_⟩) trivial ?_
          rotate_left
          · intro w hSw; clear hSw; go_simp; try with_reducible rfl
          try simp only [pu, pn, s1, s2, s3]
          refine wT (i := 2) (oi := { dst := some 35, op := Op.nilCheck (Operand.tmp 34), type := 0, pos := "parse.go:122", after := #[{ on := 1, ground := Ground.data }], guard := none }) (v := ?_) rfl (Or.inl ⟨by rfl, ?_⟩) trivial ?_
          rotate_left
          · intro w hSw; clear hSw; go_simp; try with_reducible rfl
          try simp only [pu, pn, s1, s2, s3]
          refine wT (i := 3) (oi := { dst := some 36, op := Op.fieldAddr 44 (Operand.tmp 35) 1, type := 0, pos := "parse.go:122", after := #[{ on := 2, ground := Ground.data }], guard := none }) (v := ?_) rfl (Or.inl ⟨by rfl, ?_⟩) trivial ?_
          rotate_left
          · intro w hSw; clear hSw; go_simp; try with_reducible rfl
          try simp only [pu, pn, s1, s2, s3]
          refine wT (i := 5) (oi := { dst := some 38, op := Op.move (Operand.tmp 0), type := 64, pos := "parse.go:122", after := #[], guard := none }) (v := ?_) rfl (Or.inl ⟨by rfl, ?_⟩) trivial ?_
          rotate_left
          · intro w hSw; clear hSw; go_simp; try with_reducible rfl
          try simp only [pu, pn, s1, s2, s3]
          refine wT (i := 6) (oi := { dst := some 39, op := Op.move (Operand.tmp 7), type := 9, pos := "parse.go:122", after := #[], guard := none }) (v := ?_) rfl (Or.inl ⟨by rfl, ?_⟩) trivial ?_
          rotate_left
          · intro w hSw; clear hSw; go_simp; try with_reducible rfl
          try simp only [pu, pn, s1, s2, s3]
          refine wpAnyH_ready (rs := [4, 7]) (by kernel_rfl) (by simp) ?_
          refine (AllReadyH.cons (o := { dst := some 37, op := Op.load 39 (Operand.tmp 36), type := 39, pos := "parse.go:122", after := #[{ on := 3, ground := Ground.data }], guard := none }) rfl (fun K hK => ?_) (AllReadyH.cons (o := { dst := some 40, op := Op.call { callee := Callee.value (Operand.func 74), args := #[Operand.tmp 38, Operand.tmp 39], argTypes := #[64, 9] }, type := 9, pos := "parse.go:122", after := #[{ on := 5, ground := Ground.data }, { on := 6, ground := Ground.data }], guard := none }) rfl (fun K hK => ?_) AllReadyH.nil))
          · have c2 := IR.out.st.blk.c1 IR.out.hx
            rw [show (x.p.n) = P.length from IR.out.row.p.1] at c2
            go_simp
            clear c2
            refine hK.out _ _ trivial (fun hHeld => ?_)
            clear hHeld hK K
            try simp only [pu, pn, s1, s2, s3]
            refine wpAnyH_ready (rs := [7]) (by kernel_rfl) (by simp) ?_
            refine (AllReadyH.cons (o := { dst := some 40, op := Op.call { callee := Callee.value (Operand.func 74), args := #[Operand.tmp 38, Operand.tmp 39], argTypes := #[64, 9] }, type := 9, pos := "parse.go:122", after := #[{ on := 5, ground := Ground.data }, { on := 6, ground := Ground.data }], guard := none }) rfl (fun K hK => ?_) AllReadyH.nil)
            go_simp
            (go_at_call 74; ((with_reducible refine (HX.out _ (Below.refl _ wr).drew).mono ?_); rintro e w4 ⟨rfl, b4⟩; have B4 := bel_dr b4; have I4 := Lib.hid (IR.out.later B4); clear b4 B4))
            refine hK.out _ _ trivial (fun hHeld => ?_)
            clear hHeld hK K
            try simp only [pu, pn, s1, s2, s3]
            refine wpAnyH_ready (rs := [8]) (by kernel_rfl) (by simp) ?_
            refine (AllReadyH.cons (o := { dst := some 41, op := Op.buildSlice 39 1 #[(0, Operand.tmp 40)], type := 39, pos := "parse.go:122", after := #[{ on := 7, ground := Ground.data }], guard := none }) rfl (fun K hK => ?_) AllReadyH.nil)
            go_simp
            obtain ⟨w5, hw5⟩ : ∃ W, W = w4.alloc (.cells #[.string p] 9) := ⟨_, rfl⟩
            have I5 := Lib.hid (I4.out.later (by rw [hw5]; exact alb w4 _) : InS nV aV B lo nb g z t ln w O ns ys y0 (some ⟨b3, off, none⟩) ws P Q O' x w5)
            have RV := Lib.hid (show ES.Rd w5 (some ⟨w4.heap.size, 0, none⟩) [p] by rw [hw5]; exact RE.Rd.lit (E := ES) w4 9 [p] #[.string p] rfl)
            rw [← hw5]
            clear hw5
            refine hK.out _ _ trivial (fun hHeld => ?_)
            clear hHeld hK K
            try simp only [pu, pn, s1, s2, s3]
            refine wpAnyH_ready (rs := [9]) (by kernel_rfl) (by simp) ?_
            refine (AllReadyH.cons (o := { dst := some 42, op := Op.call { callee := Callee.builtin Builtin.append, args := #[Operand.tmp 37, Operand.tmp 41], argTypes := #[39, 39] }, type := 39, pos := "parse.go:122", after := #[{ on := 4, ground := Ground.data }, { on := 8, ground := Ground.data }, { on := 7, ground := Ground.chain }], guard := none }) rfl (fun K hK => ?_) AllReadyH.nil)
            refine RE.step_put ES _ rfl (.tmp 37) (.tmp 41) rfl (base := lo) x.p.A P.length x.p.c P (some ⟨w4.heap.size, 0, none⟩) 1 1 [p] (by simp [Act.eval, Act.put]) (by simp [Act.eval, Act.put]) I5.out.row.p.2.1 rfl (by have := HL.out; have := HKN.out; omega) (I5.out.loLe HLO.out) rfl (by omega) RV.out ?_
            intro A3 c3 w7 r1 r2 r3
            have c7 := (I5.out.blk_piv r2).c1 I5.out.hx
            have f7 := (I5.out.blk_piv r2).fr (z * 5 + 1)
            have I8 := Lib.hid (I5.out.piv r1 r2 r3)
            clear r1 r2 r3
            refine hK.out _ _ trivial (fun hHeld => ?_)
            clear hHeld hK K
            try simp only [pu, pn, s1, s2, s3]
            refine wT (i := 10) (oi := { dst := some 43, op := Op.nilCheck (Operand.tmp 33), type := 0, pos := "parse.go:122", after := #[{ on := 0, ground := Ground.data }, { on := 0, ground := Ground.phase }, { on := 1, ground := Ground.phase }, { on := 2, ground := Ground.phase }, { on := 3, ground := Ground.phase }, { on := 4, ground := Ground.phase }, { on := 5, ground := Ground.phase }, { on := 6, ground := Ground.phase }, { on := 7, ground := Ground.phase }, { on := 8, ground := Ground.phase }, { on := 9, ground := Ground.phase }], guard := none }) (v := ?_) rfl (Or.inl ⟨by rfl, ?_⟩) trivial ?_
            rotate_left
            · intro w hSw; clear hSw; go_simp; try with_reducible rfl
            try simp only [pu, pn, s1, s2, s3]
            refine wT (i := 11) (oi := { dst := some 44, op := Op.fieldAddr 44 (Operand.tmp 43) 1, type := 0, pos := "parse.go:122", after := #[{ on := 10, ground := Ground.data }, { on := 0, ground := Ground.phase }, { on := 1, ground := Ground.phase }, { on := 2, ground := Ground.phase }, { on := 3, ground := Ground.phase }, { on := 4, ground := Ground.phase }, { on := 5, ground := Ground.phase }, { on := 6, ground := Ground.phase }, { on := 7, ground := Ground.phase }, { on := 8, ground := Ground.phase }, { on := 9, ground := Ground.phase }], guard := none }) (v := ?_) rfl (Or.inl ⟨by rfl, ?_⟩) trivial ?_
            rotate_left
            · intro w hSw; clear hSw; go_simp; try with_reducible rfl
            try simp only [pu, pn, s1, s2, s3]
            refine wpAnyH_ready (rs := [12]) (by kernel_rfl) (by simp) ?_
            refine (AllReadyH.cons (o := { dst := none, op := Op.store 39 (Operand.tmp 44) (Operand.tmp 42), type := 0, pos := "parse.go:122", after := #[{ on := 11, ground := Ground.data }, { on := 9, ground := Ground.data }, { on := 9, ground := Ground.chain }, { on := 0, ground := Ground.phase }, { on := 1, ground := Ground.phase }, { on := 2, ground := Ground.phase }, { on := 3, ground := Ground.phase }, { on := 4, ground := Ground.phase }, { on := 5, ground := Ground.phase }, { on := 6, ground := Ground.phase }, { on := 7, ground := Ground.phase }, { on := 8, ground := Ground.phase }, { on := 9, ground := Ground.phase }], guard := none }) rfl (fun K hK => ?_) AllReadyH.nil)
            go_simp
            clear c7 f7
            obtain ⟨w8, hw8⟩ : ∃ W, W = w7.setCell ⟨nb, z * 5 + 1, none⟩ (.slice A3 (P.length + 1) c3) := ⟨_, rfl⟩
            rw [← hw8] at I8 ⊢
            clear hw8
            refine hK.out _ _ trivial (fun hHeld => ?_)
            clear hHeld hK K
            try simp only [pu, pn, s1, s2, s3]
            refine wpAnyH_done (by kernel_rfl) ?_ _
            go_wp2
            exact ⟨⟨k + 1, _, _, _, _, by omega, by simp, HN2, Lib.hid (by have := HL.out; simp; omega), I8⟩, by simp [intOf]; omega⟩
          · go_simp
            (go_at_call 74; ((with_reducible refine (HX.out _ (Below.refl _ wr).drew).mono ?_); rintro e w4 ⟨rfl, b4⟩; have B4 := bel_dr b4; have I4 := Lib.hid (IR.out.later B4); clear b4 B4))
            refine hK.out _ _ trivial (fun hHeld => ?_)
            clear hHeld hK K
            try simp only [pu, pn, s1, s2, s3]
            refine wpAnyH_ready (rs := [4, 8]) (by kernel_rfl) (by simp) ?_
            refine (AllReadyH.cons (o := { dst := some 37, op := Op.load 39 (Operand.tmp 36), type := 39, pos := "parse.go:122", after := #[{ on := 3, ground := Ground.data }], guard := none }) rfl (fun K hK => ?_) (AllReadyH.cons (o := { dst := some 41, op := Op.buildSlice 39 1 #[(0, Operand.tmp 40)], type := 39, pos := "parse.go:122", after := #[{ on := 7, ground := Ground.data }], guard := none }) rfl (fun K hK => ?_) AllReadyH.nil))
            · have c2 := I4.out.st.blk.c1 I4.out.hx
              rw [show (x.p.n) = P.length from I4.out.row.p.1] at c2
              go_simp
              clear c2
              refine hK.out _ _ trivial (fun hHeld => ?_)
              clear hHeld hK K
              try simp only [pu, pn, s1, s2, s3]
              refine wpAnyH_ready (rs := [8]) (by kernel_rfl) (by simp) ?_
              refine (AllReadyH.cons (o := { dst := some 41, op := Op.buildSlice 39 1 #[(0, Operand.tmp 40)], type := 39, pos := "parse.go:122", after := #[{ on := 7, ground := Ground.data }], guard := none }) rfl (fun K hK => ?_) AllReadyH.nil)
              go_simp
              obtain ⟨w5, hw5⟩ : ∃ W, W = w4.alloc (.cells #[.string p] 9) := ⟨_, rfl⟩
              have I5 := Lib.hid (I4.out.later (by rw [hw5]; exact alb w4 _) : InS nV aV B lo nb g z t ln w O ns ys y0 (some ⟨b3, off, none⟩) ws P Q O' x w5)
              have RV := Lib.hid (show ES.Rd w5 (some ⟨w4.heap.size, 0, none⟩) [p] by rw [hw5]; exact RE.Rd.lit (E := ES) w4 9 [p] #[.string p] rfl)
              rw [← hw5]
              clear hw5
              refine hK.out _ _ trivial (fun hHeld => ?_)
              clear hHeld hK K
              try simp only [pu, pn, s1, s2, s3]
              refine wpAnyH_ready (rs := [9]) (by kernel_rfl) (by simp) ?_
              refine (AllReadyH.cons (o := { dst := some 42, op := Op.call { callee := Callee.builtin Builtin.append, args := #[Operand.tmp 37, Operand.tmp 41], argTypes := #[39, 39] }, type := 39, pos := "parse.go:122", after := #[{ on := 4, ground := Ground.data }, { on := 8, ground := Ground.data }, { on := 7, ground := Ground.chain }], guard := none }) rfl (fun K hK => ?_) AllReadyH.nil)
              refine RE.step_put ES _ rfl (.tmp 37) (.tmp 41) rfl (base := lo) x.p.A P.length x.p.c P (some ⟨w4.heap.size, 0, none⟩) 1 1 [p] (by simp [Act.eval, Act.put]) (by simp [Act.eval, Act.put]) I5.out.row.p.2.1 rfl (by have := HL.out; have := HKN.out; omega) (I5.out.loLe HLO.out) rfl (by omega) RV.out ?_
              intro A3 c3 w7 r1 r2 r3
              have c7 := (I5.out.blk_piv r2).c1 I5.out.hx
              have f7 := (I5.out.blk_piv r2).fr (z * 5 + 1)
              have I8 := Lib.hid (I5.out.piv r1 r2 r3)
              clear r1 r2 r3
              refine hK.out _ _ trivial (fun hHeld => ?_)
              clear hHeld hK K
              try simp only [pu, pn, s1, s2, s3]
              refine wT (i := 10) (oi := { dst := some 43, op := Op.nilCheck (Operand.tmp 33), type := 0, pos := "parse.go:122", after := #[{ on := 0, ground := Ground.data }, { on := 0, ground := Ground.phase }, { on := 1, ground := Ground.phase }, { on := 2, ground := Ground.phase }, { on := 3, ground := Ground.phase }, { on := 4, ground := Ground.phase }, { on := 5, ground := Ground.phase }, { on := 6, ground := Ground.phase }, { on := 7, ground := Ground.phase }, { on := 8, ground := Ground.phase }, { on := 9, ground := Ground.phase }], guard := none }) (v := ?_) rfl (Or.inl ⟨by rfl, ?_⟩) trivial ?_
              rotate_left
              · intro w hSw; clear hSw; go_simp; try with_reducible rfl
              try simp only [pu, pn, s1, s2, s3]
              refine wT (i := 11) (oi := { dst := some 44, op := Op.fieldAddr 44 (Operand.tmp 43) 1, type := 0, pos := "parse.go:122", after := #[{ on := 10, ground := Ground.data }, { on := 0, ground := Ground.phase }, { on := 1, ground := Ground.phase }, { on := 2, ground := Ground.phase }, { on := 3, ground := Ground.phase }, { on := 4, ground := Ground.phase }, { on := 5, ground := Ground.phase }, { on := 6, ground := Ground.phase }, { on := 7, ground := Ground.phase }, { on := 8, ground := Ground.phase }, { on := 9, ground := Ground.phase }], guard := none }) (v := ?_) rfl (Or.inl ⟨by rfl, ?_⟩) trivial ?_
              rotate_left
              · intro w hSw; clear hSw; go_simp; try with_reducible rfl
              try simp only [pu, pn, s1, s2, s3]
              refine wpAnyH_ready (rs := [12]) (by kernel_rfl) (by simp) ?_
              refine (AllReadyH.cons (o := { dst := none, op := Op.store 39 (Operand.tmp 44) (Operand.tmp 42), type := 0, pos := "parse.go:122", after := #[{ on := 11, ground := Ground.data }, { on := 9, ground := Ground.data }, { on := 9, ground := Ground.chain }, { on := 0, ground := Ground.phase }, { on := 1, ground := Ground.phase }, { on := 2, ground := Ground.phase }, { on := 3, ground := Ground.phase }, { on := 4, ground := Ground.phase }, { on := 5, ground := Ground.phase }, { on := 6, ground := Ground.phase }, { on := 7, ground := Ground.phase }, { on := 8, ground := Ground.phase }, { on := 9, ground := Ground.phase }], guard := none }) rfl (fun K hK => ?_) AllReadyH.nil)
              go_simp
              clear c7 f7
              obtain ⟨w8, hw8⟩ : ∃ W, W = w7.setCell ⟨nb, z * 5 + 1, none⟩ (.slice A3 (P.length + 1) c3) := ⟨_, rfl⟩
              rw [← hw8] at I8 ⊢
              clear hw8
              refine hK.out _ _ trivial (fun hHeld => ?_)
              clear hHeld hK K
              try simp only [pu, pn, s1, s2, s3]
              refine wpAnyH_done (by kernel_rfl) ?_ _
              go_wp2
              exact ⟨⟨k + 1, _, _, _, _, by omega, by simp, HN2, Lib.hid (by have := HL.out; simp; omega), I8⟩, by simp [intOf]; omega⟩
            · go_simp
              obtain ⟨w5, hw5⟩ : ∃ W, W = w4.alloc (.cells #[.string p] 9) := ⟨_, rfl⟩
              have I5 := Lib.hid (I4.out.later (by rw [hw5]; exact alb w4 _) : InS nV aV B lo nb g z t ln w O ns ys y0 (some ⟨b3, off, none⟩) ws P Q O' x w5)
              have RV := Lib.hid (show ES.Rd w5 (some ⟨w4.heap.size, 0, none⟩) [p] by rw [hw5]; exact RE.Rd.lit (E := ES) w4 9 [p] #[.string p] rfl)
              rw [← hw5]
              clear hw5
              refine hK.out _ _ trivial (fun hHeld => ?_)
              clear hHeld hK K
              try simp only [pu, pn, s1, s2, s3]
              refine wpAnyH_ready (rs := [4]) (by kernel_rfl) (by simp) ?_
              refine (AllReadyH.cons (o := { dst := some 37, op := Op.load 39 (Operand.tmp 36), type := 39, pos := "parse.go:122", after := #[{ on := 3, ground := Ground.data }], guard := none }) rfl (fun K hK => ?_) AllReadyH.nil)
              have c2 := I5.out.st.blk.c1 I5.out.hx
              rw [show (x.p.n) = P.length from I5.out.row.p.1] at c2
              go_simp
              clear c2
              refine hK.out _ _ trivial (fun hHeld => ?_)
              clear hHeld hK K
              try simp only [pu, pn, s1, s2, s3]
              refine wpAnyH_ready (rs := [9]) (by kernel_rfl) (by simp) ?_
              refine (AllReadyH.cons (o := { dst := some 42, op := Op.call { callee := Callee.builtin Builtin.append, args := #[Operand.tmp 37, Operand.tmp 41], argTypes := #[39, 39] }, type := 39, pos := "parse.go:122", after := #[{ on := 4, ground := Ground.data }, { on := 8, ground := Ground.data }, { on := 7, ground := Ground.chain }], guard := none }) rfl (fun K hK => ?_) AllReadyH.nil)
              refine RE.step_put ES _ rfl (.tmp 37) (.tmp 41) rfl (base := lo) x.p.A P.length x.p.c P (some ⟨w4.heap.size, 0, none⟩) 1 1 [p] (by simp [Act.eval, Act.put]) (by simp [Act.eval, Act.put]) I5.out.row.p.2.1 rfl (by have := HL.out; have := HKN.out; omega) (I5.out.loLe HLO.out) rfl (by omega) RV.out ?_
              intro A3 c3 w7 r1 r2 r3
              have c7 := (I5.out.blk_piv r2).c1 I5.out.hx
              have f7 := (I5.out.blk_piv r2).fr (z * 5 + 1)
              have I8 := Lib.hid (I5.out.piv r1 r2 r3)
              clear r1 r2 r3
              refine hK.out _ _ trivial (fun hHeld => ?_)
              clear hHeld hK K
              try simp only [pu, pn, s1, s2, s3]
              refine wT (i := 10) (oi := { dst := some 43, op := Op.nilCheck (Operand.tmp 33), type := 0, pos := "parse.go:122", after := #[{ on := 0, ground := Ground.data }, { on := 0, ground := Ground.phase }, { on := 1, ground := Ground.phase }, { on := 2, ground := Ground.phase }, { on := 3, ground := Ground.phase }, { on := 4, ground := Ground.phase }, { on := 5, ground := Ground.phase }, { on := 6, ground := Ground.phase }, { on := 7, ground := Ground.phase }, { on := 8, ground := Ground.phase }, { on := 9, ground := Ground.phase }], guard := none }) (v := ?_) rfl (Or.inl ⟨by rfl, ?_⟩) trivial ?_
              rotate_left
              · intro w hSw; clear hSw; go_simp; try with_reducible rfl
              try simp only [pu, pn, s1, s2, s3]
              refine wT (i := 11) (oi := { dst := some 44, op := Op.fieldAddr 44 (Operand.tmp 43) 1, type := 0, pos := "parse.go:122", after := #[{ on := 10, ground := Ground.data }, { on := 0, ground := Ground.phase }, { on := 1, ground := Ground.phase }, { on := 2, ground := Ground.phase }, { on := 3, ground := Ground.phase }, { on := 4, ground := Ground.phase }, { on := 5, ground := Ground.phase }, { on := 6, ground := Ground.phase }, { on := 7, ground := Ground.phase }, { on := 8, ground := Ground.phase }, { on := 9, ground := Ground.phase }], guard := none }) (v := ?_) rfl (Or.inl ⟨by rfl, ?_⟩) trivial ?_
              rotate_left
              · intro w hSw; clear hSw; go_simp; try with_reducible rfl
              try simp only [pu, pn, s1, s2, s3]
              refine wpAnyH_ready (rs := [12]) (by kernel_rfl) (by simp) ?_
              refine (AllReadyH.cons (o := { dst := none, op := Op.store 39 (Operand.tmp 44) (Operand.tmp 42), type := 0, pos := "parse.go:122", after := #[{ on := 11, ground := Ground.data }, { on := 9, ground := Ground.data }, { on := 9, ground := Ground.chain }, { on := 0, ground := Ground.phase }, { on := 1, ground := Ground.phase }, { on := 2, ground := Ground.phase }, { on := 3, ground := Ground.phase }, { on := 4, ground := Ground.phase }, { on := 5, ground := Ground.phase }, { on := 6, ground := Ground.phase }, { on := 7, ground := Ground.phase }, { on := 8, ground := Ground.phase }, { on := 9, ground := Ground.phase }], guard := none }) rfl (fun K hK => ?_) AllReadyH.nil)
              go_simp
              clear c7 f7
              obtain ⟨w8, hw8⟩ : ∃ W, W = w7.setCell ⟨nb, z * 5 + 1, none⟩ (.slice A3 (P.length + 1) c3) := ⟨_, rfl⟩
              rw [← hw8] at I8 ⊢
              clear hw8
              refine hK.out _ _ trivial (fun hHeld => ?_)
              clear hHeld hK K
              try simp only [pu, pn, s1, s2, s3]
              refine wpAnyH_done (by kernel_rfl) ?_ _
              go_wp2
              exact ⟨⟨k + 1, _, _, _, _, by omega, by simp, HN2, Lib.hid (by have := HL.out; simp; omega), I8⟩, by simp [intOf]; omega⟩
    · have hke : k = n := by omega
      have hk1 : ¬ (k : Int) < (n : Int) := by omega
      have HE : Hid (r = some (P, Q)) := Lib.hid (by rw [← HRR.out, ← HP.out, List.take_of_length_le (by omega)])
      clear hNN
      go_wp2
      rw [HE.out]
      refine ⟨rfl, .tuple #[], ?_, ⟨rfl, IR.out.rb, O', x, IR.out.st, IR.out.ow⟩, IR.out.bel⟩
      first
        | (simp [results, go_sem, Tryz.f54]; done)
        | (simp [results, go_sem]; done)
        | kernel_rfl
end Go.Proofs.YtdebedeebmmleaaGreatDoor
