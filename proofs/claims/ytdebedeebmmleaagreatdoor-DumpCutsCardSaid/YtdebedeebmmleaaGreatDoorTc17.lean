/- The reader: a line that tells a block. -/
import Derived.Test.YtdebedeebmmleaaGreatDoorTc01
import Derived.Test.YtdebedeebmmleaaGreatDoorTc16
set_option linter.unusedVariables false
set_option linter.unusedSimpArgs false
namespace Go.Proofs.YtdebedeebmmleaaGreatDoor
open Go.RowKit Go.Maps
section
variable {B lo nb g n z : Nat} {t : ByteArray} {ln : Int} {O : Nat → Nat × Nat} {ns : List NC} {ys : List NdV} {w : World}
theorem BSt.tell (h : BSt B lo nb g n z t ln O ns ys w) {O' : Nat → Nat × Nat} (q : ∀ b, b < w.heap.size → O' b = O b) : BSt B lo nb g n z t ln O' ns ys w := ⟨h.rb, h.st.tell q, h.gb, h.lt, h.hi, h.new⟩
theorem BSt.blk_b (h : BSt B lo nb g n z t ln O ns ys w) {w1 : World} {x : NC} {hs : List Hd} {u : Nat × Nat} (hh : OwR EH w lo O u x.b hs) (hg : w.grownBy w1 (RE.fp x.b.A x.b.c)) : NB w1 nb ns :=
  h.st.blk.chg (Chg.grown hg) (fun e => by have := (hh.2.1.fp_lt e).1; have := h.st.lt; omega)
theorem BSt.bl (h : BSt B lo nb g n z t ln O ns ys w) {w1 : World} {x : NC} {y : NdV} {A' : Option Addr} {c' : Nat} {hs : List Hd} {hd : Hd} {l : List EnV} (hx : ns[z]? = some x) (hy : ys[z]? = some y) (hh : OwR EH w lo O (z, 4) x.b hs) (hB : BlR w lo O (z, 5) hs y.bl) (he : OwR EE w lo O (z, 5) hd l) (h1 : EH.Row w1 lo A' (hs ++ [hd]) c') (hg : w.grownBy w1 (RE.fp x.b.A x.b.c)) (hf : RE.fp A' c' = none ∨ RE.fp A' c' = RE.fp x.b.A x.b.c ∨ RE.fp A' c' = some w.heap.size) :
    BSt B lo nb g n z t ln (newO O w.heap.size (z, 4)) (ns.set z { x with b := ⟨A', hs.length + 1, c'⟩ }) (ys.set z { y with bl := y.bl ++ [l] }) (w1.setCell ⟨nb, z * 5 + 4, none⟩ (.slice A' (hs.length + 1) c')) ∧ Below B w (w1.setCell ⟨nb, z * 5 + 4, none⟩ (.slice A' (hs.length + 1) c')) := by
  obtain ⟨r1, r2⟩ := h.st.bl hx hy hh hB he h1 hg hf
  have hl := h.lt
  have hb : Below B w (w1.setCell ⟨nb, z * 5 + 4, none⟩ (.slice A' (hs.length + 1) c')) := r2.below (lo := B) (fun b e => by
    rcases e with e | e
    · omega
    · have := (hh.2.1.fp_lt e).1; omega) h.gb.le
  refine ⟨h.node (r2.keep h.rb (fun e => ?_)) r1 hb, hb⟩
  rcases e with e | e
  · omega
  · have := (hh.2.1.fp_lt e).1; omega
end
set_option maxHeartbeats 1500000 in
set_option maxRecDepth 100000 in
theorem block_none {B lo nb g n z m : Nat} {t : ByteArray} {ln : Int} {O : Nat → Nat × Nat} {ns : List NC} {ys : List NdV} {w : World} {b : Nat} {ws : List ByteArray} (hS : BSt B lo nb g n z t ln O ns ys w) (hA : ES.Rd w (some ⟨b, 0, none⟩) ws) (hm : ws.length = m) (h0 : ws[0]? = some (⟨#[98, 108, 111, 99, 107]⟩ : ByteArray)) (hz : z = 0) :
    Calls Tryz.prog 32 #[.pointer (some ⟨g, 0, none⟩), .slice (some ⟨b, 0, none⟩) m m] w (RBd B lo nb g n t ln w O none) := by
  have hmp : 0 < m := by have := (List.getElem?_eq_some_iff.1 h0).1; omega
  have c0 : w.cell? ⟨b, 0, none⟩ = some (.string (⟨#[98, 108, 111, 99, 107]⟩ : ByteArray)) := by
    have h := wd_cell hA (i := 0) (by omega)
    have h2 := wd_at (ws := ws) (i := 0) (by omega)
    rw [h0] at h2
    injection h2 with h2
    rw [← h2] at h
    exact h
  have k0 : (0 : Int) < ((m : Nat) : Int) := by omega
  have HS := Lib.hid hS
  have LA := Lib.hid (last_none 1 0 hS.rb hz)
  clear hS hA hm h0 hmp hz
  go_enter Tryz.func32, Tryz.ntmps32
  go_wp2_with (first
    | (go_at_call 55; ((with_reducible refine LA.out.mono ?_); rintro e w5 ⟨rfl, b5⟩; have B5 := Lib.hid (b5.mono HS.out.gb.le); clear b5))
    | fail)
  exact ⟨rfl, rfl, B5.out⟩
set_option maxHeartbeats 1500000 in
set_option maxRecDepth 100000 in
theorem block_other {B lo nb g n z m : Nat} {t : ByteArray} {ln : Int} {O : Nat → Nat × Nat} {ns : List NC} {ys : List NdV} {w : World} {b : Nat} {ws : List ByteArray} (hS : BSt B lo nb g n z t ln O ns ys w) (hA : ES.Rd w (some ⟨b, 0, none⟩) ws) (hm : ws.length = m) (h0 : ws[0]? = some (⟨#[98, 108, 111, 99, 107]⟩ : ByteArray)) (hz : 0 < z) {x : NC} {y : NdV} (hx : ns[z]? = some x) (hy : ys[z]? = some y) (hk : ¬ y.k = 1) :
    Calls Tryz.prog 32 #[.pointer (some ⟨g, 0, none⟩), .slice (some ⟨b, 0, none⟩) m m] w (RBd B lo nb g n t ln w O none) := by
  have hmp : 0 < m := by have := (List.getElem?_eq_some_iff.1 h0).1; omega
  have c0 : w.cell? ⟨b, 0, none⟩ = some (.string (⟨#[98, 108, 111, 99, 107]⟩ : ByteArray)) := by
    have h := wd_cell hA (i := 0) (by omega)
    have h2 := wd_at (ws := ws) (i := 0) (by omega)
    rw [h0] at h2
    injection h2 with h2
    rw [← h2] at h
    exact h
  have k0 : (0 : Int) < ((m : Nat) : Int) := by omega
  have HS := Lib.hid hS
  have hzn : z < n := by have := (List.getElem?_eq_some_iff.1 hx).1; have := hS.lt.2.2.2.2.2.2; omega
  have LA := Lib.hid (last_other 1 y.k hS.rb hz hzn (by rw [← (hS.st.row z x y hx hy).k]; exact hS.st.blk.c0 hx) hk)
  clear hS hA hm h0 hmp hz hx hy hk hzn
  go_enter Tryz.func32, Tryz.ntmps32
  go_wp2_with (first
    | (go_at_call 55; ((with_reducible refine LA.out.mono ?_); rintro e w5 ⟨rfl, b5⟩; have B5 := Lib.hid (b5.mono HS.out.gb.le); clear b5))
    | fail)
  exact ⟨rfl, rfl, B5.out⟩
set_option maxHeartbeats 1500000 in
set_option maxRecDepth 100000 in
theorem block_one {B lo nb g n z : Nat} {t : ByteArray} {ln : Int} {O : Nat → Nat × Nat} {ns : List NC} {ys : List NdV} {w : World} {b : Nat} {ws : List ByteArray} (hS : BSt B lo nb g n z t ln O ns ys w) (hA : ES.Rd w (some ⟨b, 0, none⟩) ws) (hm : ws.length = 1) (h0 : ws[0]? = some (⟨#[98, 108, 111, 99, 107]⟩ : ByteArray)) (hz : 0 < z) {x : NC} {y : NdV} (hx : ns[z]? = some x) (hy : ys[z]? = some y) (hk : y.k = 1) (hc : y.bl.length ≤ 1000000) (hs2 : ∀ x ∈ ws, x.size ≤ 1000000) :
    Calls Tryz.prog 32 #[.pointer (some ⟨g, 0, none⟩), .slice (some ⟨b, 0, none⟩) 1 1] w (RBd B lo nb g n t ln w O ((entB (ws.drop 1)).map fun l => (z, ys.set z { y with bl := y.bl ++ [l] }))) := by
  have hmp : 0 < 1 := by have := (List.getElem?_eq_some_iff.1 h0).1; omega
  have c0 : w.cell? ⟨b, 0, none⟩ = some (.string (⟨#[98, 108, 111, 99, 107]⟩ : ByteArray)) := by
    have h := wd_cell hA (i := 0) (by omega)
    have h2 := wd_at (ws := ws) (i := 0) (by omega)
    rw [h0] at h2
    injection h2 with h2
    rw [← h2] at h
    exact h
  have k0 : (0 : Int) < ((1 : Nat) : Int) := by omega
  have HS := Lib.hid hS
  have hzn : z < n := by have := (List.getElem?_eq_some_iff.1 hx).1; have := hS.lt.2.2.2.2.2.2; omega
  have LA := Lib.hid (last_ok 1 y.k hS.rb hz hzn (by rw [← (hS.st.row z x y hx hy).k]; exact hS.st.blk.c0 hx) hk)
  have HM := Lib.hid (fun V (h : Below w.heap.size w V) => rblock_any (some ⟨b, 0, none⟩) (0) (0) (ws.drop 1) (hS.rb.later h) (hS.gb.later h) (by simp [hm]) (by omega) (.inl (by rw [List.drop_of_length_le (by omega)]; rfl)) (fun y hy => hs2 y (List.mem_of_mem_drop hy)))
  unfold RBl at HM
  have HX := Lib.hid hx
  have HY := Lib.hid hy
  obtain ⟨hs, hb1, hb2⟩ := (hS.st.row z x y hx hy).b
  have HC : Hid (hs.length ≤ 1000000) := Lib.hid (by rw [hb2.1]; exact hc)
  have HXN : Hid (x.b.n = hs.length) := Lib.hid hb1.1
  have HH0 := Lib.hid (And.intro hb1 hb2)
  obtain ⟨r, hr⟩ : ∃ r, entB (ws.drop 1) = r := ⟨_, rfl⟩
  rw [hr] at HM ⊢
  clear hS hA hm h0 hmp hz hx hy hk hzn hc hs2 hr hb1 hb2
  cases r with
  | none =>
    go_enter Tryz.func32, Tryz.ntmps32
    go_upto_region 11 with (first
      | (go_at_call 55; ((with_reducible refine LA.out.mono ?_); rintro e w5 ⟨rfl, b5⟩; have S5 := Lib.hid (HS.out.later b5); have B5 := Lib.hid (b5.mono HS.out.gb.le); replace HM := Lib.hid (fun V (h : Below w5.heap.size w5 V) => HM.out V (b5.trans (h.mono b5.size))); clear b5))
      | fail)
    refine wp_region_held_drew (S := fun _ : World => True) (by kernel_rfl) trivial (fun hHeld => ?_)
    clear hHeld
    refine wT (i := 0) (oi := { dst := some 63, op := Op.move (Operand.tmp 4), type := 95, pos := "parse.go:97", after := #[], guard := none }) (v := ?_) rfl (Or.inl ⟨by rfl, ?_⟩) trivial ?_
    rotate_left
    · intro w hSw; clear hSw; go_simp; try with_reducible rfl
    try simp only [pu, pn, s1, s2, s3]
    refine wT (i := 1) (oi := { dst := some 64, op := Op.move (Operand.tmp 4), type := 95, pos := "parse.go:97", after := #[], guard := none }) (v := ?_) rfl (Or.inl ⟨by rfl, ?_⟩) trivial ?_
    rotate_left
    · intro w hSw; clear hSw; go_simp; try with_reducible rfl
    try simp only [pu, pn, s1, s2, s3]
    refine wT (i := 2) (oi := { dst := some 65, op := Op.nilCheck (Operand.tmp 64), type := 0, pos := "parse.go:97", after := #[{ on := 1, ground := Ground.data }], guard := none }) (v := ?_) rfl (Or.inl ⟨by rfl, ?_⟩) trivial ?_
    rotate_left
    · intro w hSw; clear hSw; go_simp; try with_reducible rfl
    try simp only [pu, pn, s1, s2, s3]
    refine wT (i := 3) (oi := { dst := some 66, op := Op.fieldAddr 44 (Operand.tmp 65) 4, type := 0, pos := "parse.go:97", after := #[{ on := 2, ground := Ground.data }], guard := none }) (v := ?_) rfl (Or.inl ⟨by rfl, ?_⟩) trivial ?_
    rotate_left
    · intro w hSw; clear hSw; go_simp; try with_reducible rfl
    try simp only [pu, pn, s1, s2, s3]
    refine wT (i := 5) (oi := { dst := some 68, op := Op.move (Operand.tmp 0), type := 64, pos := "parse.go:97", after := #[], guard := none }) (v := ?_) rfl (Or.inl ⟨by rfl, ?_⟩) trivial ?_
    rotate_left
    · intro w hSw; clear hSw; go_simp; try with_reducible rfl
    try simp only [pu, pn, s1, s2, s3]
    refine wT (i := 6) (oi := { dst := some 69, op := Op.move (Operand.tmp 1), type := 39, pos := "parse.go:97", after := #[], guard := none }) (v := ?_) rfl (Or.inl ⟨by rfl, ?_⟩) trivial ?_
    rotate_left
    · intro w hSw; clear hSw; go_simp; try with_reducible rfl
    try simp only [pu, pn, s1, s2, s3]
    refine wT (i := 7) (oi := { dst := some 70, op := Op.slice 39 (Operand.tmp 69) (some (Operand.const (Value.int IntKind.i64 1))) none none, type := 39, pos := "parse.go:97", after := #[{ on := 6, ground := Ground.data }], guard := none }) (v := ?_) rfl (Or.inl ⟨by rfl, ?_⟩) trivial ?_
    rotate_left
    · intro w hSw; clear hSw; go_simp; try with_reducible rfl
    try simp only [pu, pn, s1, s2, s3]
    refine wpAnyH_ready (rs := [4, 8]) (by kernel_rfl) (by simp) ?_
    refine (AllReadyH.cons (o := { dst := some 67, op := Op.load 42 (Operand.tmp 66), type := 42, pos := "parse.go:97", after := #[{ on := 3, ground := Ground.data }], guard := none }) rfl (fun K hK => ?_) (AllReadyH.cons (o := { dst := some 71, op := Op.call { callee := Callee.value (Operand.func 56), args := #[Operand.tmp 68, Operand.tmp 70], argTypes := #[64, 39] }, type := 69, pos := "parse.go:97", after := #[{ on := 5, ground := Ground.data }, { on := 7, ground := Ground.data }], guard := none }) rfl (fun K hK => ?_) AllReadyH.nil))
    · have c3 := S5.out.st.blk.c4 HX.out
      rw [HXN.out] at c3
      go_simp
      clear c3
      refine hK.out _ _ trivial (fun hHeld => ?_)
      clear hHeld hK K
      try simp only [pu, pn, s1, s2, s3]
      refine wpAnyH_ready (rs := [8]) (by kernel_rfl) (by simp) ?_
      refine (AllReadyH.cons (o := { dst := some 71, op := Op.call { callee := Callee.value (Operand.func 56), args := #[Operand.tmp 68, Operand.tmp 70], argTypes := #[64, 39] }, type := 69, pos := "parse.go:97", after := #[{ on := 5, ground := Ground.data }, { on := 7, ground := Ground.data }], guard := none }) rfl (fun K hK => ?_) AllReadyH.nil)
      go_simp
      (go_at_call 56; ((with_reducible refine (HM.out _ (Below.refl _ w5).drew).mono ?_); rintro e w6 ⟨rfl, b6⟩; have B6 := Lib.hid (B5.out.trans ((bel_dr b6).mono S5.out.gb.le)); clear b6))
      exact ⟨rfl, rfl, B6.out⟩
    · go_simp
      (go_at_call 56; ((with_reducible refine (HM.out _ (Below.refl _ w5).drew).mono ?_); rintro e w6 ⟨rfl, b6⟩; have B6 := Lib.hid (B5.out.trans ((bel_dr b6).mono S5.out.gb.le)); clear b6))
      exact ⟨rfl, rfl, B6.out⟩
  | some l =>
    go_enter Tryz.func32, Tryz.ntmps32
    go_upto_region 11 with (first
      | (go_at_call 55; ((with_reducible refine LA.out.mono ?_); rintro e w5 ⟨rfl, b5⟩; have S5 := Lib.hid (HS.out.later b5); have B5 := Lib.hid (b5.mono HS.out.gb.le); have HSZ := Lib.hid b5.size; have HH := Lib.hid (And.intro (HH0.out.1.later b5) (show BlR w5 lo O (z, 5) hs y.bl from ⟨HH0.out.2.1, fun i q k hq hk => (HH0.out.2.2 i q k hq hk).later b5⟩)); replace HM := Lib.hid (fun V (h : Below w5.heap.size w5 V) => HM.out V (b5.trans (h.mono b5.size))); clear b5))
      | fail)
    refine wp_region_held_drew (S := fun _ : World => True) (by kernel_rfl) trivial (fun hHeld => ?_)
    clear hHeld
    refine wT (i := 0) (oi := { dst := some 63, op := Op.move (Operand.tmp 4), type := 95, pos := "parse.go:97", after := #[], guard := none }) (v := ?_) rfl (Or.inl ⟨by rfl, ?_⟩) trivial ?_
    rotate_left
    · intro w hSw; clear hSw; go_simp; try with_reducible rfl
    try simp only [pu, pn, s1, s2, s3]
    refine wT (i := 1) (oi := { dst := some 64, op := Op.move (Operand.tmp 4), type := 95, pos := "parse.go:97", after := #[], guard := none }) (v := ?_) rfl (Or.inl ⟨by rfl, ?_⟩) trivial ?_
    rotate_left
    · intro w hSw; clear hSw; go_simp; try with_reducible rfl
    try simp only [pu, pn, s1, s2, s3]
    refine wT (i := 2) (oi := { dst := some 65, op := Op.nilCheck (Operand.tmp 64), type := 0, pos := "parse.go:97", after := #[{ on := 1, ground := Ground.data }], guard := none }) (v := ?_) rfl (Or.inl ⟨by rfl, ?_⟩) trivial ?_
    rotate_left
    · intro w hSw; clear hSw; go_simp; try with_reducible rfl
    try simp only [pu, pn, s1, s2, s3]
    refine wT (i := 3) (oi := { dst := some 66, op := Op.fieldAddr 44 (Operand.tmp 65) 4, type := 0, pos := "parse.go:97", after := #[{ on := 2, ground := Ground.data }], guard := none }) (v := ?_) rfl (Or.inl ⟨by rfl, ?_⟩) trivial ?_
    rotate_left
    · intro w hSw; clear hSw; go_simp; try with_reducible rfl
    try simp only [pu, pn, s1, s2, s3]
    refine wT (i := 5) (oi := { dst := some 68, op := Op.move (Operand.tmp 0), type := 64, pos := "parse.go:97", after := #[], guard := none }) (v := ?_) rfl (Or.inl ⟨by rfl, ?_⟩) trivial ?_
    rotate_left
    · intro w hSw; clear hSw; go_simp; try with_reducible rfl
    try simp only [pu, pn, s1, s2, s3]
    refine wT (i := 6) (oi := { dst := some 69, op := Op.move (Operand.tmp 1), type := 39, pos := "parse.go:97", after := #[], guard := none }) (v := ?_) rfl (Or.inl ⟨by rfl, ?_⟩) trivial ?_
    rotate_left
    · intro w hSw; clear hSw; go_simp; try with_reducible rfl
    try simp only [pu, pn, s1, s2, s3]
    refine wT (i := 7) (oi := { dst := some 70, op := Op.slice 39 (Operand.tmp 69) (some (Operand.const (Value.int IntKind.i64 1))) none none, type := 39, pos := "parse.go:97", after := #[{ on := 6, ground := Ground.data }], guard := none }) (v := ?_) rfl (Or.inl ⟨by rfl, ?_⟩) trivial ?_
    rotate_left
    · intro w hSw; clear hSw; go_simp; try with_reducible rfl
    try simp only [pu, pn, s1, s2, s3]
    refine wpAnyH_ready (rs := [4, 8]) (by kernel_rfl) (by simp) ?_
    refine (AllReadyH.cons (o := { dst := some 67, op := Op.load 42 (Operand.tmp 66), type := 42, pos := "parse.go:97", after := #[{ on := 3, ground := Ground.data }], guard := none }) rfl (fun K hK => ?_) (AllReadyH.cons (o := { dst := some 71, op := Op.call { callee := Callee.value (Operand.func 56), args := #[Operand.tmp 68, Operand.tmp 70], argTypes := #[64, 39] }, type := 69, pos := "parse.go:97", after := #[{ on := 5, ground := Ground.data }, { on := 7, ground := Ground.data }], guard := none }) rfl (fun K hK => ?_) AllReadyH.nil))
    · have c3 := S5.out.st.blk.c4 HX.out
      rw [HXN.out] at c3
      go_simp
      clear c3
      refine hK.out _ _ trivial (fun hHeld => ?_)
      clear hHeld hK K
      try simp only [pu, pn, s1, s2, s3]
      refine wpAnyH_ready (rs := [8]) (by kernel_rfl) (by simp) ?_
      refine (AllReadyH.cons (o := { dst := some 71, op := Op.call { callee := Callee.value (Operand.func 56), args := #[Operand.tmp 68, Operand.tmp 70], argTypes := #[64, 39] }, type := 69, pos := "parse.go:97", after := #[{ on := 5, ground := Ground.data }, { on := 7, ground := Ground.data }], guard := none }) rfl (fun K hK => ?_) AllReadyH.nil)
      go_simp
      (go_at_call 56; ((with_reducible refine (HM.out _ (Below.refl _ w5).drew).mono ?_); rintro e w6 ⟨⟨A6, c6, rfl, r6⟩, b6⟩; have R6 := Lib.hid (show EE.Row w6 w5.heap.size A6 l c6 from r6); have S6 := Lib.hid (S5.out.later (bel_dr b6)); have Y6 := Lib.hid (bel_dr b6); have B6 := Lib.hid (B5.out.trans ((bel_dr b6).mono S5.out.gb.le)); clear b6 r6))
      refine hK.out _ _ trivial (fun hHeld => ?_)
      clear hHeld hK K
      try simp only [pu, pn, s1, s2, s3]
      refine wpAnyH_ready (rs := [9]) (by kernel_rfl) (by simp) ?_
      refine (AllReadyH.cons (o := { dst := some 72, op := Op.buildSlice 42 1 #[(0, Operand.tmp 71)], type := 42, pos := "parse.go:97", after := #[{ on := 8, ground := Ground.data }], guard := none }) rfl (fun K hK => ?_) AllReadyH.nil)
      go_simp
      obtain ⟨w7, hw7⟩ : ∃ W, W = w6.alloc (.cells #[.slice A6 l.length c6] 69) := ⟨_, rfl⟩
      have Y7 := Lib.hid (show Below w6.heap.size w6 w7 by rw [hw7]; exact alb w6 _)
      have S7 := Lib.hid (S6.out.later Y7.out)
      have B7 := Lib.hid (B6.out.trans (Y7.out.mono S6.out.gb.le))
      have RV := Lib.hid (show EH.Rd w7 (some ⟨w6.heap.size, 0, none⟩) [⟨A6, l.length, c6⟩] by rw [hw7]; exact RE.Rd.lit (E := EH) w6 69 [⟨A6, l.length, c6⟩] #[.slice A6 l.length c6] rfl)
      rw [← hw7]
      clear hw7
      refine hK.out _ _ trivial (fun hHeld => ?_)
      clear hHeld hK K
      try simp only [pu, pn, s1, s2, s3]
      refine wpAnyH_ready (rs := [10]) (by kernel_rfl) (by simp) ?_
      refine (AllReadyH.cons (o := { dst := some 73, op := Op.call { callee := Callee.builtin Builtin.append, args := #[Operand.tmp 67, Operand.tmp 72], argTypes := #[42, 42] }, type := 42, pos := "parse.go:97", after := #[{ on := 4, ground := Ground.data }, { on := 9, ground := Ground.data }, { on := 8, ground := Ground.chain }], guard := none }) rfl (fun K hK => ?_) AllReadyH.nil)
      have TL : ∀ q, q < w5.heap.size → newR O w5.heap.size w6.heap.size (z, 5) q = O q := fun q hq => newR_old hq
      have OH := Lib.hid (((((HH.out.1.tell TL).later Y6.out).later Y7.out)))
      have BH : Hid (BlR w7 lo (newR O w5.heap.size w6.heap.size (z, 5)) (z, 5) hs y.bl) := Lib.hid ⟨HH.out.2.1, fun i q k hq hk => (((HH.out.2.2 i q k hq hk).tell TL).later Y6.out).later Y7.out⟩
      have EHn := Lib.hid ((OwR.made (who := (z, 5)) (O := O) R6.out S5.out.hi).later Y7.out)
      have S8 := Lib.hid ((((S5.out.tell TL).later Y6.out)).later Y7.out)
      refine RE.step_put EH _ rfl (.tmp 67) (.tmp 72) rfl (base := lo) x.b.A hs.length x.b.c hs (some ⟨w6.heap.size, 0, none⟩) 1 1 [⟨A6, l.length, c6⟩] (by simp [Act.eval, Act.put]) (by simp [Act.eval, Act.put]) OH.out.2.1 rfl HC.out S7.out.hi rfl (by omega) RV.out ?_
      intro A3 c3 w8 r1 r2 r3
      have c7 := (S8.out.blk_b OH.out r2).c4 HX.out
      have f7 := (S8.out.blk_b OH.out r2).fr (z * 5 + 4)
      have S9 := S8.out.bl HX.out HY.out OH.out BH.out EHn.out r1 r2 r3
      clear r1 r2 r3 TL
      refine hK.out _ _ trivial (fun hHeld => ?_)
      clear hHeld hK K
      try simp only [pu, pn, s1, s2, s3]
      refine wT (i := 11) (oi := { dst := some 74, op := Op.nilCheck (Operand.tmp 63), type := 0, pos := "parse.go:97", after := #[{ on := 0, ground := Ground.data }, { on := 0, ground := Ground.phase }, { on := 1, ground := Ground.phase }, { on := 2, ground := Ground.phase }, { on := 3, ground := Ground.phase }, { on := 4, ground := Ground.phase }, { on := 5, ground := Ground.phase }, { on := 6, ground := Ground.phase }, { on := 7, ground := Ground.phase }, { on := 8, ground := Ground.phase }, { on := 9, ground := Ground.phase }, { on := 10, ground := Ground.phase }], guard := none }) (v := ?_) rfl (Or.inl ⟨by rfl, ?_⟩) trivial ?_
      rotate_left
      · intro w hSw; clear hSw; go_simp; try with_reducible rfl
      try simp only [pu, pn, s1, s2, s3]
      refine wT (i := 12) (oi := { dst := some 75, op := Op.fieldAddr 44 (Operand.tmp 74) 4, type := 0, pos := "parse.go:97", after := #[{ on := 11, ground := Ground.data }, { on := 0, ground := Ground.phase }, { on := 1, ground := Ground.phase }, { on := 2, ground := Ground.phase }, { on := 3, ground := Ground.phase }, { on := 4, ground := Ground.phase }, { on := 5, ground := Ground.phase }, { on := 6, ground := Ground.phase }, { on := 7, ground := Ground.phase }, { on := 8, ground := Ground.phase }, { on := 9, ground := Ground.phase }, { on := 10, ground := Ground.phase }], guard := none }) (v := ?_) rfl (Or.inl ⟨by rfl, ?_⟩) trivial ?_
      rotate_left
      · intro w hSw; clear hSw; go_simp; try with_reducible rfl
      try simp only [pu, pn, s1, s2, s3]
      refine wpAnyH_ready (rs := [13]) (by kernel_rfl) (by simp) ?_
      refine (AllReadyH.cons (o := { dst := none, op := Op.store 42 (Operand.tmp 75) (Operand.tmp 73), type := 0, pos := "parse.go:97", after := #[{ on := 12, ground := Ground.data }, { on := 10, ground := Ground.data }, { on := 10, ground := Ground.chain }, { on := 0, ground := Ground.phase }, { on := 1, ground := Ground.phase }, { on := 2, ground := Ground.phase }, { on := 3, ground := Ground.phase }, { on := 4, ground := Ground.phase }, { on := 5, ground := Ground.phase }, { on := 6, ground := Ground.phase }, { on := 7, ground := Ground.phase }, { on := 8, ground := Ground.phase }, { on := 9, ground := Ground.phase }, { on := 10, ground := Ground.phase }], guard := none }) rfl (fun K hK => ?_) AllReadyH.nil)
      go_simp
      clear c7 f7
      obtain ⟨w9, hw9⟩ : ∃ W, W = w8.setCell ⟨nb, z * 5 + 4, none⟩ (.slice A3 (hs.length + 1) c3) := ⟨_, rfl⟩
      rw [← hw9] at S9 ⊢
      clear hw9
      refine hK.out _ _ trivial (fun hHeld => ?_)
      clear hHeld hK K
      try simp only [pu, pn, s1, s2, s3]
      refine wpAnyH_done (by kernel_rfl) ?_ _
      go_wp2
      go_end0
      exact ⟨⟨rfl, _, _, S9.1, fun q hq => by have h5 := Nat.lt_of_lt_of_le hq HSZ.out; rw [newO_old (Nat.lt_of_lt_of_le h5 (Nat.le_trans Y6.out.size Y7.out.size)), newR_old h5]⟩, B7.out.trans S9.2⟩
    · go_simp
      (go_at_call 56; ((with_reducible refine (HM.out _ (Below.refl _ w5).drew).mono ?_); rintro e w6 ⟨⟨A6, c6, rfl, r6⟩, b6⟩; have R6 := Lib.hid (show EE.Row w6 w5.heap.size A6 l c6 from r6); have S6 := Lib.hid (S5.out.later (bel_dr b6)); have Y6 := Lib.hid (bel_dr b6); have B6 := Lib.hid (B5.out.trans ((bel_dr b6).mono S5.out.gb.le)); clear b6 r6))
      refine hK.out _ _ trivial (fun hHeld => ?_)
      clear hHeld hK K
      try simp only [pu, pn, s1, s2, s3]
      refine wpAnyH_ready (rs := [4, 9]) (by kernel_rfl) (by simp) ?_
      refine (AllReadyH.cons (o := { dst := some 67, op := Op.load 42 (Operand.tmp 66), type := 42, pos := "parse.go:97", after := #[{ on := 3, ground := Ground.data }], guard := none }) rfl (fun K hK => ?_) (AllReadyH.cons (o := { dst := some 72, op := Op.buildSlice 42 1 #[(0, Operand.tmp 71)], type := 42, pos := "parse.go:97", after := #[{ on := 8, ground := Ground.data }], guard := none }) rfl (fun K hK => ?_) AllReadyH.nil))
      · have c3 := S6.out.st.blk.c4 HX.out
        rw [HXN.out] at c3
        go_simp
        clear c3
        refine hK.out _ _ trivial (fun hHeld => ?_)
        clear hHeld hK K
        try simp only [pu, pn, s1, s2, s3]
        refine wpAnyH_ready (rs := [9]) (by kernel_rfl) (by simp) ?_
        refine (AllReadyH.cons (o := { dst := some 72, op := Op.buildSlice 42 1 #[(0, Operand.tmp 71)], type := 42, pos := "parse.go:97", after := #[{ on := 8, ground := Ground.data }], guard := none }) rfl (fun K hK => ?_) AllReadyH.nil)
        go_simp
        obtain ⟨w7, hw7⟩ : ∃ W, W = w6.alloc (.cells #[.slice A6 l.length c6] 69) := ⟨_, rfl⟩
        have Y7 := Lib.hid (show Below w6.heap.size w6 w7 by rw [hw7]; exact alb w6 _)
        have S7 := Lib.hid (S6.out.later Y7.out)
        have B7 := Lib.hid (B6.out.trans (Y7.out.mono S6.out.gb.le))
        have RV := Lib.hid (show EH.Rd w7 (some ⟨w6.heap.size, 0, none⟩) [⟨A6, l.length, c6⟩] by rw [hw7]; exact RE.Rd.lit (E := EH) w6 69 [⟨A6, l.length, c6⟩] #[.slice A6 l.length c6] rfl)
        rw [← hw7]
        clear hw7
        refine hK.out _ _ trivial (fun hHeld => ?_)
        clear hHeld hK K
        try simp only [pu, pn, s1, s2, s3]
        refine wpAnyH_ready (rs := [10]) (by kernel_rfl) (by simp) ?_
        refine (AllReadyH.cons (o := { dst := some 73, op := Op.call { callee := Callee.builtin Builtin.append, args := #[Operand.tmp 67, Operand.tmp 72], argTypes := #[42, 42] }, type := 42, pos := "parse.go:97", after := #[{ on := 4, ground := Ground.data }, { on := 9, ground := Ground.data }, { on := 8, ground := Ground.chain }], guard := none }) rfl (fun K hK => ?_) AllReadyH.nil)
        have TL : ∀ q, q < w5.heap.size → newR O w5.heap.size w6.heap.size (z, 5) q = O q := fun q hq => newR_old hq
        have OH := Lib.hid (((((HH.out.1.tell TL).later Y6.out).later Y7.out)))
        have BH : Hid (BlR w7 lo (newR O w5.heap.size w6.heap.size (z, 5)) (z, 5) hs y.bl) := Lib.hid ⟨HH.out.2.1, fun i q k hq hk => (((HH.out.2.2 i q k hq hk).tell TL).later Y6.out).later Y7.out⟩
        have EHn := Lib.hid ((OwR.made (who := (z, 5)) (O := O) R6.out S5.out.hi).later Y7.out)
        have S8 := Lib.hid ((((S5.out.tell TL).later Y6.out)).later Y7.out)
        refine RE.step_put EH _ rfl (.tmp 67) (.tmp 72) rfl (base := lo) x.b.A hs.length x.b.c hs (some ⟨w6.heap.size, 0, none⟩) 1 1 [⟨A6, l.length, c6⟩] (by simp [Act.eval, Act.put]) (by simp [Act.eval, Act.put]) OH.out.2.1 rfl HC.out S7.out.hi rfl (by omega) RV.out ?_
        intro A3 c3 w8 r1 r2 r3
        have c7 := (S8.out.blk_b OH.out r2).c4 HX.out
        have f7 := (S8.out.blk_b OH.out r2).fr (z * 5 + 4)
        have S9 := S8.out.bl HX.out HY.out OH.out BH.out EHn.out r1 r2 r3
        clear r1 r2 r3 TL
        refine hK.out _ _ trivial (fun hHeld => ?_)
        clear hHeld hK K
        try simp only [pu, pn, s1, s2, s3]
        refine wT (i := 11) (oi := { dst := some 74, op := Op.nilCheck (Operand.tmp 63), type := 0, pos := "parse.go:97", after := #[{ on := 0, ground := Ground.data }, { on := 0, ground := Ground.phase }, { on := 1, ground := Ground.phase }, { on := 2, ground := Ground.phase }, { on := 3, ground := Ground.phase }, { on := 4, ground := Ground.phase }, { on := 5, ground := Ground.phase }, { on := 6, ground := Ground.phase }, { on := 7, ground := Ground.phase }, { on := 8, ground := Ground.phase }, { on := 9, ground := Ground.phase }, { on := 10, ground := Ground.phase }], guard := none }) (v := ?_) rfl (Or.inl ⟨by rfl, ?_⟩) trivial ?_
        rotate_left
        · intro w hSw; clear hSw; go_simp; try with_reducible rfl
        try simp only [pu, pn, s1, s2, s3]
        refine wT (i := 12) (oi := { dst := some 75, op := Op.fieldAddr 44 (Operand.tmp 74) 4, type := 0, pos := "parse.go:97", after := #[{ on := 11, ground := Ground.data }, { on := 0, ground := Ground.phase }, { on := 1, ground := Ground.phase }, { on := 2, ground := Ground.phase }, { on := 3, ground := Ground.phase }, { on := 4, ground := Ground.phase }, { on := 5, ground := Ground.phase }, { on := 6, ground := Ground.phase }, { on := 7, ground := Ground.phase }, { on := 8, ground := Ground.phase }, { on := 9, ground := Ground.phase }, { on := 10, ground := Ground.phase }], guard := none }) (v := ?_) rfl (Or.inl ⟨by rfl, ?_⟩) trivial ?_
        rotate_left
        · intro w hSw; clear hSw; go_simp; try with_reducible rfl
        try simp only [pu, pn, s1, s2, s3]
        refine wpAnyH_ready (rs := [13]) (by kernel_rfl) (by simp) ?_
        refine (AllReadyH.cons (o := { dst := none, op := Op.store 42 (Operand.tmp 75) (Operand.tmp 73), type := 0, pos := "parse.go:97", after := #[{ on := 12, ground := Ground.data }, { on := 10, ground := Ground.data }, { on := 10, ground := Ground.chain }, { on := 0, ground := Ground.phase }, { on := 1, ground := Ground.phase }, { on := 2, ground := Ground.phase }, { on := 3, ground := Ground.phase }, { on := 4, ground := Ground.phase }, { on := 5, ground := Ground.phase }, { on := 6, ground := Ground.phase }, { on := 7, ground := Ground.phase }, { on := 8, ground := Ground.phase }, { on := 9, ground := Ground.phase }, { on := 10, ground := Ground.phase }], guard := none }) rfl (fun K hK => ?_) AllReadyH.nil)
        go_simp
        clear c7 f7
        obtain ⟨w9, hw9⟩ : ∃ W, W = w8.setCell ⟨nb, z * 5 + 4, none⟩ (.slice A3 (hs.length + 1) c3) := ⟨_, rfl⟩
        rw [← hw9] at S9 ⊢
        clear hw9
        refine hK.out _ _ trivial (fun hHeld => ?_)
        clear hHeld hK K
        try simp only [pu, pn, s1, s2, s3]
        refine wpAnyH_done (by kernel_rfl) ?_ _
        go_wp2
        go_end0
        exact ⟨⟨rfl, _, _, S9.1, fun q hq => by have h5 := Nat.lt_of_lt_of_le hq HSZ.out; rw [newO_old (Nat.lt_of_lt_of_le h5 (Nat.le_trans Y6.out.size Y7.out.size)), newR_old h5]⟩, B7.out.trans S9.2⟩
      · go_simp
        obtain ⟨w7, hw7⟩ : ∃ W, W = w6.alloc (.cells #[.slice A6 l.length c6] 69) := ⟨_, rfl⟩
        have Y7 := Lib.hid (show Below w6.heap.size w6 w7 by rw [hw7]; exact alb w6 _)
        have S7 := Lib.hid (S6.out.later Y7.out)
        have B7 := Lib.hid (B6.out.trans (Y7.out.mono S6.out.gb.le))
        have RV := Lib.hid (show EH.Rd w7 (some ⟨w6.heap.size, 0, none⟩) [⟨A6, l.length, c6⟩] by rw [hw7]; exact RE.Rd.lit (E := EH) w6 69 [⟨A6, l.length, c6⟩] #[.slice A6 l.length c6] rfl)
        rw [← hw7]
        clear hw7
        refine hK.out _ _ trivial (fun hHeld => ?_)
        clear hHeld hK K
        try simp only [pu, pn, s1, s2, s3]
        refine wpAnyH_ready (rs := [4]) (by kernel_rfl) (by simp) ?_
        refine (AllReadyH.cons (o := { dst := some 67, op := Op.load 42 (Operand.tmp 66), type := 42, pos := "parse.go:97", after := #[{ on := 3, ground := Ground.data }], guard := none }) rfl (fun K hK => ?_) AllReadyH.nil)
        have c3 := S7.out.st.blk.c4 HX.out
        rw [HXN.out] at c3
        go_simp
        clear c3
        refine hK.out _ _ trivial (fun hHeld => ?_)
        clear hHeld hK K
        try simp only [pu, pn, s1, s2, s3]
        refine wpAnyH_ready (rs := [10]) (by kernel_rfl) (by simp) ?_
        refine (AllReadyH.cons (o := { dst := some 73, op := Op.call { callee := Callee.builtin Builtin.append, args := #[Operand.tmp 67, Operand.tmp 72], argTypes := #[42, 42] }, type := 42, pos := "parse.go:97", after := #[{ on := 4, ground := Ground.data }, { on := 9, ground := Ground.data }, { on := 8, ground := Ground.chain }], guard := none }) rfl (fun K hK => ?_) AllReadyH.nil)
        have TL : ∀ q, q < w5.heap.size → newR O w5.heap.size w6.heap.size (z, 5) q = O q := fun q hq => newR_old hq
        have OH := Lib.hid (((((HH.out.1.tell TL).later Y6.out).later Y7.out)))
        have BH : Hid (BlR w7 lo (newR O w5.heap.size w6.heap.size (z, 5)) (z, 5) hs y.bl) := Lib.hid ⟨HH.out.2.1, fun i q k hq hk => (((HH.out.2.2 i q k hq hk).tell TL).later Y6.out).later Y7.out⟩
        have EHn := Lib.hid ((OwR.made (who := (z, 5)) (O := O) R6.out S5.out.hi).later Y7.out)
        have S8 := Lib.hid ((((S5.out.tell TL).later Y6.out)).later Y7.out)
        refine RE.step_put EH _ rfl (.tmp 67) (.tmp 72) rfl (base := lo) x.b.A hs.length x.b.c hs (some ⟨w6.heap.size, 0, none⟩) 1 1 [⟨A6, l.length, c6⟩] (by simp [Act.eval, Act.put]) (by simp [Act.eval, Act.put]) OH.out.2.1 rfl HC.out S7.out.hi rfl (by omega) RV.out ?_
        intro A3 c3 w8 r1 r2 r3
        have c7 := (S8.out.blk_b OH.out r2).c4 HX.out
        have f7 := (S8.out.blk_b OH.out r2).fr (z * 5 + 4)
        have S9 := S8.out.bl HX.out HY.out OH.out BH.out EHn.out r1 r2 r3
        clear r1 r2 r3 TL
        refine hK.out _ _ trivial (fun hHeld => ?_)
        clear hHeld hK K
        try simp only [pu, pn, s1, s2, s3]
        refine wT (i := 11) (oi := { dst := some 74, op := Op.nilCheck (Operand.tmp 63), type := 0, pos := "parse.go:97", after := #[{ on := 0, ground := Ground.data }, { on := 0, ground := Ground.phase }, { on := 1, ground := Ground.phase }, { on := 2, ground := Ground.phase }, { on := 3, ground := Ground.phase }, { on := 4, ground := Ground.phase }, { on := 5, ground := Ground.phase }, { on := 6, ground := Ground.phase }, { on := 7, ground := Ground.phase }, { on := 8, ground := Ground.phase }, { on := 9, ground := Ground.phase }, { on := 10, ground := Ground.phase }], guard := none }) (v := ?_) rfl (Or.inl ⟨by rfl, ?_⟩) trivial ?_
        rotate_left
        · intro w hSw; clear hSw; go_simp; try with_reducible rfl
        try simp only [pu, pn, s1, s2, s3]
        refine wT (i := 12) (oi := { dst := some 75, op := Op.fieldAddr 44 (Operand.tmp 74) 4, type := 0, pos := "parse.go:97", after := #[{ on := 11, ground := Ground.data }, { on := 0, ground := Ground.phase }, { on := 1, ground := Ground.phase }, { on := 2, ground := Ground.phase }, { on := 3, ground := Ground.phase }, { on := 4, ground := Ground.phase }, { on := 5, ground := Ground.phase }, { on := 6, ground := Ground.phase }, { on := 7, ground := Ground.phase }, { on := 8, ground := Ground.phase }, { on := 9, ground := Ground.phase }, { on := 10, ground := Ground.phase }], guard := none }) (v := ?_) rfl (Or.inl ⟨by rfl, ?_⟩) trivial ?_
        rotate_left
        · intro w hSw; clear hSw; go_simp; try with_reducible rfl
        try simp only [pu, pn, s1, s2, s3]
        refine wpAnyH_ready (rs := [13]) (by kernel_rfl) (by simp) ?_
        refine (AllReadyH.cons (o := { dst := none, op := Op.store 42 (Operand.tmp 75) (Operand.tmp 73), type := 0, pos := "parse.go:97", after := #[{ on := 12, ground := Ground.data }, { on := 10, ground := Ground.data }, { on := 10, ground := Ground.chain }, { on := 0, ground := Ground.phase }, { on := 1, ground := Ground.phase }, { on := 2, ground := Ground.phase }, { on := 3, ground := Ground.phase }, { on := 4, ground := Ground.phase }, { on := 5, ground := Ground.phase }, { on := 6, ground := Ground.phase }, { on := 7, ground := Ground.phase }, { on := 8, ground := Ground.phase }, { on := 9, ground := Ground.phase }, { on := 10, ground := Ground.phase }], guard := none }) rfl (fun K hK => ?_) AllReadyH.nil)
        go_simp
        clear c7 f7
        obtain ⟨w9, hw9⟩ : ∃ W, W = w8.setCell ⟨nb, z * 5 + 4, none⟩ (.slice A3 (hs.length + 1) c3) := ⟨_, rfl⟩
        rw [← hw9] at S9 ⊢
        clear hw9
        refine hK.out _ _ trivial (fun hHeld => ?_)
        clear hHeld hK K
        try simp only [pu, pn, s1, s2, s3]
        refine wpAnyH_done (by kernel_rfl) ?_ _
        go_wp2
        go_end0
        exact ⟨⟨rfl, _, _, S9.1, fun q hq => by have h5 := Nat.lt_of_lt_of_le hq HSZ.out; rw [newO_old (Nat.lt_of_lt_of_le h5 (Nat.le_trans Y6.out.size Y7.out.size)), newR_old h5]⟩, B7.out.trans S9.2⟩
set_option maxHeartbeats 1500000 in
set_option maxRecDepth 100000 in
theorem block_more {B lo nb g n z m : Nat} {t : ByteArray} {ln : Int} {O : Nat → Nat × Nat} {ns : List NC} {ys : List NdV} {w : World} {b : Nat} {ws : List ByteArray} (hS : BSt B lo nb g n z t ln O ns ys w) (hA : ES.Rd w (some ⟨b, 0, none⟩) ws) (hm : ws.length = m) (h0 : ws[0]? = some (⟨#[98, 108, 111, 99, 107]⟩ : ByteArray)) (hm1 : ¬ m = 1) (hm9 : m ≤ 900000) (hz : 0 < z) {x : NC} {y : NdV} (hx : ns[z]? = some x) (hy : ys[z]? = some y) (hk : y.k = 1) (hc : y.bl.length ≤ 1000000) (hs2 : ∀ x ∈ ws, x.size ≤ 1000000) :
    Calls Tryz.prog 32 #[.pointer (some ⟨g, 0, none⟩), .slice (some ⟨b, 0, none⟩) m m] w (RBd B lo nb g n t ln w O ((entB (ws.drop 1)).map fun l => (z, ys.set z { y with bl := y.bl ++ [l] }))) := by
  have hmp : 0 < m := by have := (List.getElem?_eq_some_iff.1 h0).1; omega
  have c0 : w.cell? ⟨b, 0, none⟩ = some (.string (⟨#[98, 108, 111, 99, 107]⟩ : ByteArray)) := by
    have h := wd_cell hA (i := 0) (by omega)
    have h2 := wd_at (ws := ws) (i := 0) (by omega)
    rw [h0] at h2
    injection h2 with h2
    rw [← h2] at h
    exact h
  have k0 : (0 : Int) < ((m : Nat) : Int) := by omega
  have HS := Lib.hid hS
  have km2 : (1 : Int) ≤ (m : Int) := by omega
  have hzn : z < n := by have := (List.getElem?_eq_some_iff.1 hx).1; have := hS.lt.2.2.2.2.2.2; omega
  have LA := Lib.hid (last_ok 1 y.k hS.rb hz hzn (by rw [← (hS.st.row z x y hx hy).k]; exact hS.st.blk.c0 hx) hk)
  have HM := Lib.hid (fun V (h : Below w.heap.size w V) => rblock_any (some ⟨b, 1, none⟩) (m - 1) (m - 1) (ws.drop 1) (hS.rb.later h) (hS.gb.later h) (by simp [hm]) (by omega) ((RE.Rd.drop hA 1 : ES.Rd w (some ⟨b, 1, none⟩) (ws.drop 1)).later h) (fun y hy => hs2 y (List.mem_of_mem_drop hy)))
  unfold RBl at HM
  have HX := Lib.hid hx
  have HY := Lib.hid hy
  obtain ⟨hs, hb1, hb2⟩ := (hS.st.row z x y hx hy).b
  have HC : Hid (hs.length ≤ 1000000) := Lib.hid (by rw [hb2.1]; exact hc)
  have HXN : Hid (x.b.n = hs.length) := Lib.hid hb1.1
  have HH0 := Lib.hid (And.intro hb1 hb2)
  obtain ⟨r, hr⟩ : ∃ r, entB (ws.drop 1) = r := ⟨_, rfl⟩
  rw [hr] at HM ⊢
  clear hS hA hm h0 hmp hz hx hy hk hzn hc hs2 hr hb1 hb2 hm9
  cases r with
  | none =>
    go_enter Tryz.func32, Tryz.ntmps32
    go_upto_region 11 with (first
      | (go_at_call 55; ((with_reducible refine LA.out.mono ?_); rintro e w5 ⟨rfl, b5⟩; have S5 := Lib.hid (HS.out.later b5); have B5 := Lib.hid (b5.mono HS.out.gb.le); replace HM := Lib.hid (fun V (h : Below w5.heap.size w5 V) => HM.out V (b5.trans (h.mono b5.size))); clear b5))
      | fail)
    refine wp_region_held_drew (S := fun _ : World => True) (by kernel_rfl) trivial (fun hHeld => ?_)
    clear hHeld
    refine wT (i := 0) (oi := { dst := some 63, op := Op.move (Operand.tmp 4), type := 95, pos := "parse.go:97", after := #[], guard := none }) (v := ?_) rfl (Or.inl ⟨by rfl, ?_⟩) trivial ?_
    rotate_left
    · intro w hSw; clear hSw; go_simp; try with_reducible rfl
    try simp only [pu, pn, s1, s2, s3]
    refine wT (i := 1) (oi := { dst := some 64, op := Op.move (Operand.tmp 4), type := 95, pos := "parse.go:97", after := #[], guard := none }) (v := ?_) rfl (Or.inl ⟨by rfl, ?_⟩) trivial ?_
    rotate_left
    · intro w hSw; clear hSw; go_simp; try with_reducible rfl
    try simp only [pu, pn, s1, s2, s3]
    refine wT (i := 2) (oi := { dst := some 65, op := Op.nilCheck (Operand.tmp 64), type := 0, pos := "parse.go:97", after := #[{ on := 1, ground := Ground.data }], guard := none }) (v := ?_) rfl (Or.inl ⟨by rfl, ?_⟩) trivial ?_
    rotate_left
    · intro w hSw; clear hSw; go_simp; try with_reducible rfl
    try simp only [pu, pn, s1, s2, s3]
    refine wT (i := 3) (oi := { dst := some 66, op := Op.fieldAddr 44 (Operand.tmp 65) 4, type := 0, pos := "parse.go:97", after := #[{ on := 2, ground := Ground.data }], guard := none }) (v := ?_) rfl (Or.inl ⟨by rfl, ?_⟩) trivial ?_
    rotate_left
    · intro w hSw; clear hSw; go_simp; try with_reducible rfl
    try simp only [pu, pn, s1, s2, s3]
    refine wT (i := 5) (oi := { dst := some 68, op := Op.move (Operand.tmp 0), type := 64, pos := "parse.go:97", after := #[], guard := none }) (v := ?_) rfl (Or.inl ⟨by rfl, ?_⟩) trivial ?_
    rotate_left
    · intro w hSw; clear hSw; go_simp; try with_reducible rfl
    try simp only [pu, pn, s1, s2, s3]
    refine wT (i := 6) (oi := { dst := some 69, op := Op.move (Operand.tmp 1), type := 39, pos := "parse.go:97", after := #[], guard := none }) (v := ?_) rfl (Or.inl ⟨by rfl, ?_⟩) trivial ?_
    rotate_left
    · intro w hSw; clear hSw; go_simp; try with_reducible rfl
    try simp only [pu, pn, s1, s2, s3]
    refine wT (i := 7) (oi := { dst := some 70, op := Op.slice 39 (Operand.tmp 69) (some (Operand.const (Value.int IntKind.i64 1))) none none, type := 39, pos := "parse.go:97", after := #[{ on := 6, ground := Ground.data }], guard := none }) (v := ?_) rfl (Or.inl ⟨by rfl, ?_⟩) trivial ?_
    rotate_left
    · intro w hSw; clear hSw; go_simp; try with_reducible rfl
    try simp only [pu, pn, s1, s2, s3]
    refine wpAnyH_ready (rs := [4, 8]) (by kernel_rfl) (by simp) ?_
    refine (AllReadyH.cons (o := { dst := some 67, op := Op.load 42 (Operand.tmp 66), type := 42, pos := "parse.go:97", after := #[{ on := 3, ground := Ground.data }], guard := none }) rfl (fun K hK => ?_) (AllReadyH.cons (o := { dst := some 71, op := Op.call { callee := Callee.value (Operand.func 56), args := #[Operand.tmp 68, Operand.tmp 70], argTypes := #[64, 39] }, type := 69, pos := "parse.go:97", after := #[{ on := 5, ground := Ground.data }, { on := 7, ground := Ground.data }], guard := none }) rfl (fun K hK => ?_) AllReadyH.nil))
    · have c3 := S5.out.st.blk.c4 HX.out
      rw [HXN.out] at c3
      go_simp
      clear c3
      refine hK.out _ _ trivial (fun hHeld => ?_)
      clear hHeld hK K
      try simp only [pu, pn, s1, s2, s3]
      refine wpAnyH_ready (rs := [8]) (by kernel_rfl) (by simp) ?_
      refine (AllReadyH.cons (o := { dst := some 71, op := Op.call { callee := Callee.value (Operand.func 56), args := #[Operand.tmp 68, Operand.tmp 70], argTypes := #[64, 39] }, type := 69, pos := "parse.go:97", after := #[{ on := 5, ground := Ground.data }, { on := 7, ground := Ground.data }], guard := none }) rfl (fun K hK => ?_) AllReadyH.nil)
      go_simp
      (go_at_call 56; ((with_reducible refine (HM.out _ (Below.refl _ w5).drew).mono ?_); rintro e w6 ⟨rfl, b6⟩; have B6 := Lib.hid (B5.out.trans ((bel_dr b6).mono S5.out.gb.le)); clear b6))
      exact ⟨rfl, rfl, B6.out⟩
    · go_simp
      (go_at_call 56; ((with_reducible refine (HM.out _ (Below.refl _ w5).drew).mono ?_); rintro e w6 ⟨rfl, b6⟩; have B6 := Lib.hid (B5.out.trans ((bel_dr b6).mono S5.out.gb.le)); clear b6))
      exact ⟨rfl, rfl, B6.out⟩
  | some l =>
    go_enter Tryz.func32, Tryz.ntmps32
    go_upto_region 11 with (first
      | (go_at_call 55; ((with_reducible refine LA.out.mono ?_); rintro e w5 ⟨rfl, b5⟩; have S5 := Lib.hid (HS.out.later b5); have B5 := Lib.hid (b5.mono HS.out.gb.le); have HSZ := Lib.hid b5.size; have HH := Lib.hid (And.intro (HH0.out.1.later b5) (show BlR w5 lo O (z, 5) hs y.bl from ⟨HH0.out.2.1, fun i q k hq hk => (HH0.out.2.2 i q k hq hk).later b5⟩)); replace HM := Lib.hid (fun V (h : Below w5.heap.size w5 V) => HM.out V (b5.trans (h.mono b5.size))); clear b5))
      | fail)
    refine wp_region_held_drew (S := fun _ : World => True) (by kernel_rfl) trivial (fun hHeld => ?_)
    clear hHeld
    refine wT (i := 0) (oi := { dst := some 63, op := Op.move (Operand.tmp 4), type := 95, pos := "parse.go:97", after := #[], guard := none }) (v := ?_) rfl (Or.inl ⟨by rfl, ?_⟩) trivial ?_
    rotate_left
    · intro w hSw; clear hSw; go_simp; try with_reducible rfl
    try simp only [pu, pn, s1, s2, s3]
    refine wT (i := 1) (oi := { dst := some 64, op := Op.move (Operand.tmp 4), type := 95, pos := "parse.go:97", after := #[], guard := none }) (v := ?_) rfl (Or.inl ⟨by rfl, ?_⟩) trivial ?_
    rotate_left
    · intro w hSw; clear hSw; go_simp; try with_reducible rfl
    try simp only [pu, pn, s1, s2, s3]
    refine wT (i := 2) (oi := { dst := some 65, op := Op.nilCheck (Operand.tmp 64), type := 0, pos := "parse.go:97", after := #[{ on := 1, ground := Ground.data }], guard := none }) (v := ?_) rfl (Or.inl ⟨by rfl, ?_⟩) trivial ?_
    rotate_left
    · intro w hSw; clear hSw; go_simp; try with_reducible rfl
    try simp only [pu, pn, s1, s2, s3]
    refine wT (i := 3) (oi := { dst := some 66, op := Op.fieldAddr 44 (Operand.tmp 65) 4, type := 0, pos := "parse.go:97", after := #[{ on := 2, ground := Ground.data }], guard := none }) (v := ?_) rfl (Or.inl ⟨by rfl, ?_⟩) trivial ?_
    rotate_left
    · intro w hSw; clear hSw; go_simp; try with_reducible rfl
    try simp only [pu, pn, s1, s2, s3]
    refine wT (i := 5) (oi := { dst := some 68, op := Op.move (Operand.tmp 0), type := 64, pos := "parse.go:97", after := #[], guard := none }) (v := ?_) rfl (Or.inl ⟨by rfl, ?_⟩) trivial ?_
    rotate_left
    · intro w hSw; clear hSw; go_simp; try with_reducible rfl
    try simp only [pu, pn, s1, s2, s3]
    refine wT (i := 6) (oi := { dst := some 69, op := Op.move (Operand.tmp 1), type := 39, pos := "parse.go:97", after := #[], guard := none }) (v := ?_) rfl (Or.inl ⟨by rfl, ?_⟩) trivial ?_
    rotate_left
    · intro w hSw; clear hSw; go_simp; try with_reducible rfl
    try simp only [pu, pn, s1, s2, s3]
    refine wT (i := 7) (oi := { dst := some 70, op := Op.slice 39 (Operand.tmp 69) (some (Operand.const (Value.int IntKind.i64 1))) none none, type := 39, pos := "parse.go:97", after := #[{ on := 6, ground := Ground.data }], guard := none }) (v := ?_) rfl (Or.inl ⟨by rfl, ?_⟩) trivial ?_
    rotate_left
    · intro w hSw; clear hSw; go_simp; try with_reducible rfl
    try simp only [pu, pn, s1, s2, s3]
    refine wpAnyH_ready (rs := [4, 8]) (by kernel_rfl) (by simp) ?_
    refine (AllReadyH.cons (o := { dst := some 67, op := Op.load 42 (Operand.tmp 66), type := 42, pos := "parse.go:97", after := #[{ on := 3, ground := Ground.data }], guard := none }) rfl (fun K hK => ?_) (AllReadyH.cons (o := { dst := some 71, op := Op.call { callee := Callee.value (Operand.func 56), args := #[Operand.tmp 68, Operand.tmp 70], argTypes := #[64, 39] }, type := 69, pos := "parse.go:97", after := #[{ on := 5, ground := Ground.data }, { on := 7, ground := Ground.data }], guard := none }) rfl (fun K hK => ?_) AllReadyH.nil))
    · have c3 := S5.out.st.blk.c4 HX.out
      rw [HXN.out] at c3
      go_simp
      clear c3
      refine hK.out _ _ trivial (fun hHeld => ?_)
      clear hHeld hK K
      try simp only [pu, pn, s1, s2, s3]
      refine wpAnyH_ready (rs := [8]) (by kernel_rfl) (by simp) ?_
      refine (AllReadyH.cons (o := { dst := some 71, op := Op.call { callee := Callee.value (Operand.func 56), args := #[Operand.tmp 68, Operand.tmp 70], argTypes := #[64, 39] }, type := 69, pos := "parse.go:97", after := #[{ on := 5, ground := Ground.data }, { on := 7, ground := Ground.data }], guard := none }) rfl (fun K hK => ?_) AllReadyH.nil)
      go_simp
      (go_at_call 56; ((with_reducible refine (HM.out _ (Below.refl _ w5).drew).mono ?_); rintro e w6 ⟨⟨A6, c6, rfl, r6⟩, b6⟩; have R6 := Lib.hid (show EE.Row w6 w5.heap.size A6 l c6 from r6); have S6 := Lib.hid (S5.out.later (bel_dr b6)); have Y6 := Lib.hid (bel_dr b6); have B6 := Lib.hid (B5.out.trans ((bel_dr b6).mono S5.out.gb.le)); clear b6 r6))
      refine hK.out _ _ trivial (fun hHeld => ?_)
      clear hHeld hK K
      try simp only [pu, pn, s1, s2, s3]
      refine wpAnyH_ready (rs := [9]) (by kernel_rfl) (by simp) ?_
      refine (AllReadyH.cons (o := { dst := some 72, op := Op.buildSlice 42 1 #[(0, Operand.tmp 71)], type := 42, pos := "parse.go:97", after := #[{ on := 8, ground := Ground.data }], guard := none }) rfl (fun K hK => ?_) AllReadyH.nil)
      go_simp
      obtain ⟨w7, hw7⟩ : ∃ W, W = w6.alloc (.cells #[.slice A6 l.length c6] 69) := ⟨_, rfl⟩
      have Y7 := Lib.hid (show Below w6.heap.size w6 w7 by rw [hw7]; exact alb w6 _)
      have S7 := Lib.hid (S6.out.later Y7.out)
      have B7 := Lib.hid (B6.out.trans (Y7.out.mono S6.out.gb.le))
      have RV := Lib.hid (show EH.Rd w7 (some ⟨w6.heap.size, 0, none⟩) [⟨A6, l.length, c6⟩] by rw [hw7]; exact RE.Rd.lit (E := EH) w6 69 [⟨A6, l.length, c6⟩] #[.slice A6 l.length c6] rfl)
      rw [← hw7]
      clear hw7
      refine hK.out _ _ trivial (fun hHeld => ?_)
      clear hHeld hK K
      try simp only [pu, pn, s1, s2, s3]
      refine wpAnyH_ready (rs := [10]) (by kernel_rfl) (by simp) ?_
      refine (AllReadyH.cons (o := { dst := some 73, op := Op.call { callee := Callee.builtin Builtin.append, args := #[Operand.tmp 67, Operand.tmp 72], argTypes := #[42, 42] }, type := 42, pos := "parse.go:97", after := #[{ on := 4, ground := Ground.data }, { on := 9, ground := Ground.data }, { on := 8, ground := Ground.chain }], guard := none }) rfl (fun K hK => ?_) AllReadyH.nil)
      have TL : ∀ q, q < w5.heap.size → newR O w5.heap.size w6.heap.size (z, 5) q = O q := fun q hq => newR_old hq
      have OH := Lib.hid (((((HH.out.1.tell TL).later Y6.out).later Y7.out)))
      have BH : Hid (BlR w7 lo (newR O w5.heap.size w6.heap.size (z, 5)) (z, 5) hs y.bl) := Lib.hid ⟨HH.out.2.1, fun i q k hq hk => (((HH.out.2.2 i q k hq hk).tell TL).later Y6.out).later Y7.out⟩
      have EHn := Lib.hid ((OwR.made (who := (z, 5)) (O := O) R6.out S5.out.hi).later Y7.out)
      have S8 := Lib.hid ((((S5.out.tell TL).later Y6.out)).later Y7.out)
      refine RE.step_put EH _ rfl (.tmp 67) (.tmp 72) rfl (base := lo) x.b.A hs.length x.b.c hs (some ⟨w6.heap.size, 0, none⟩) 1 1 [⟨A6, l.length, c6⟩] (by simp [Act.eval, Act.put]) (by simp [Act.eval, Act.put]) OH.out.2.1 rfl HC.out S7.out.hi rfl (by omega) RV.out ?_
      intro A3 c3 w8 r1 r2 r3
      have c7 := (S8.out.blk_b OH.out r2).c4 HX.out
      have f7 := (S8.out.blk_b OH.out r2).fr (z * 5 + 4)
      have S9 := S8.out.bl HX.out HY.out OH.out BH.out EHn.out r1 r2 r3
      clear r1 r2 r3 TL
      refine hK.out _ _ trivial (fun hHeld => ?_)
      clear hHeld hK K
      try simp only [pu, pn, s1, s2, s3]
      refine wT (i := 11) (oi := { dst := some 74, op := Op.nilCheck (Operand.tmp 63), type := 0, pos := "parse.go:97", after := #[{ on := 0, ground := Ground.data }, { on := 0, ground := Ground.phase }, { on := 1, ground := Ground.phase }, { on := 2, ground := Ground.phase }, { on := 3, ground := Ground.phase }, { on := 4, ground := Ground.phase }, { on := 5, ground := Ground.phase }, { on := 6, ground := Ground.phase }, { on := 7, ground := Ground.phase }, { on := 8, ground := Ground.phase }, { on := 9, ground := Ground.phase }, { on := 10, ground := Ground.phase }], guard := none }) (v := ?_) rfl (Or.inl ⟨by rfl, ?_⟩) trivial ?_
      rotate_left
      · intro w hSw; clear hSw; go_simp; try with_reducible rfl
      try simp only [pu, pn, s1, s2, s3]
      refine wT (i := 12) (oi := { dst := some 75, op := Op.fieldAddr 44 (Operand.tmp 74) 4, type := 0, pos := "parse.go:97", after := #[{ on := 11, ground := Ground.data }, { on := 0, ground := Ground.phase }, { on := 1, ground := Ground.phase }, { on := 2, ground := Ground.phase }, { on := 3, ground := Ground.phase }, { on := 4, ground := Ground.phase }, { on := 5, ground := Ground.phase }, { on := 6, ground := Ground.phase }, { on := 7, ground := Ground.phase }, { on := 8, ground := Ground.phase }, { on := 9, ground := Ground.phase }, { on := 10, ground := Ground.phase }], guard := none }) (v := ?_) rfl (Or.inl ⟨by rfl, ?_⟩) trivial ?_
      rotate_left
      · intro w hSw; clear hSw; go_simp; try with_reducible rfl
      try simp only [pu, pn, s1, s2, s3]
      refine wpAnyH_ready (rs := [13]) (by kernel_rfl) (by simp) ?_
      refine (AllReadyH.cons (o := { dst := none, op := Op.store 42 (Operand.tmp 75) (Operand.tmp 73), type := 0, pos := "parse.go:97", after := #[{ on := 12, ground := Ground.data }, { on := 10, ground := Ground.data }, { on := 10, ground := Ground.chain }, { on := 0, ground := Ground.phase }, { on := 1, ground := Ground.phase }, { on := 2, ground := Ground.phase }, { on := 3, ground := Ground.phase }, { on := 4, ground := Ground.phase }, { on := 5, ground := Ground.phase }, { on := 6, ground := Ground.phase }, { on := 7, ground := Ground.phase }, { on := 8, ground := Ground.phase }, { on := 9, ground := Ground.phase }, { on := 10, ground := Ground.phase }], guard := none }) rfl (fun K hK => ?_) AllReadyH.nil)
      go_simp
      clear c7 f7
      obtain ⟨w9, hw9⟩ : ∃ W, W = w8.setCell ⟨nb, z * 5 + 4, none⟩ (.slice A3 (hs.length + 1) c3) := ⟨_, rfl⟩
      rw [← hw9] at S9 ⊢
      clear hw9
      refine hK.out _ _ trivial (fun hHeld => ?_)
      clear hHeld hK K
      try simp only [pu, pn, s1, s2, s3]
      refine wpAnyH_done (by kernel_rfl) ?_ _
      go_wp2
      go_end0
      exact ⟨⟨rfl, _, _, S9.1, fun q hq => by have h5 := Nat.lt_of_lt_of_le hq HSZ.out; rw [newO_old (Nat.lt_of_lt_of_le h5 (Nat.le_trans Y6.out.size Y7.out.size)), newR_old h5]⟩, B7.out.trans S9.2⟩
    · go_simp
      (go_at_call 56; ((with_reducible refine (HM.out _ (Below.refl _ w5).drew).mono ?_); rintro e w6 ⟨⟨A6, c6, rfl, r6⟩, b6⟩; have R6 := Lib.hid (show EE.Row w6 w5.heap.size A6 l c6 from r6); have S6 := Lib.hid (S5.out.later (bel_dr b6)); have Y6 := Lib.hid (bel_dr b6); have B6 := Lib.hid (B5.out.trans ((bel_dr b6).mono S5.out.gb.le)); clear b6 r6))
      refine hK.out _ _ trivial (fun hHeld => ?_)
      clear hHeld hK K
      try simp only [pu, pn, s1, s2, s3]
      refine wpAnyH_ready (rs := [4, 9]) (by kernel_rfl) (by simp) ?_
      refine (AllReadyH.cons (o := { dst := some 67, op := Op.load 42 (Operand.tmp 66), type := 42, pos := "parse.go:97", after := #[{ on := 3, ground := Ground.data }], guard := none }) rfl (fun K hK => ?_) (AllReadyH.cons (o := { dst := some 72, op := Op.buildSlice 42 1 #[(0, Operand.tmp 71)], type := 42, pos := "parse.go:97", after := #[{ on := 8, ground := Ground.data }], guard := none }) rfl (fun K hK => ?_) AllReadyH.nil))
      · have c3 := S6.out.st.blk.c4 HX.out
        rw [HXN.out] at c3
        go_simp
        clear c3
        refine hK.out _ _ trivial (fun hHeld => ?_)
        clear hHeld hK K
        try simp only [pu, pn, s1, s2, s3]
        refine wpAnyH_ready (rs := [9]) (by kernel_rfl) (by simp) ?_
        refine (AllReadyH.cons (o := { dst := some 72, op := Op.buildSlice 42 1 #[(0, Operand.tmp 71)], type := 42, pos := "parse.go:97", after := #[{ on := 8, ground := Ground.data }], guard := none }) rfl (fun K hK => ?_) AllReadyH.nil)
        go_simp
        obtain ⟨w7, hw7⟩ : ∃ W, W = w6.alloc (.cells #[.slice A6 l.length c6] 69) := ⟨_, rfl⟩
        have Y7 := Lib.hid (show Below w6.heap.size w6 w7 by rw [hw7]; exact alb w6 _)
        have S7 := Lib.hid (S6.out.later Y7.out)
        have B7 := Lib.hid (B6.out.trans (Y7.out.mono S6.out.gb.le))
        have RV := Lib.hid (show EH.Rd w7 (some ⟨w6.heap.size, 0, none⟩) [⟨A6, l.length, c6⟩] by rw [hw7]; exact RE.Rd.lit (E := EH) w6 69 [⟨A6, l.length, c6⟩] #[.slice A6 l.length c6] rfl)
        rw [← hw7]
        clear hw7
        refine hK.out _ _ trivial (fun hHeld => ?_)
        clear hHeld hK K
        try simp only [pu, pn, s1, s2, s3]
        refine wpAnyH_ready (rs := [10]) (by kernel_rfl) (by simp) ?_
        refine (AllReadyH.cons (o := { dst := some 73, op := Op.call { callee := Callee.builtin Builtin.append, args := #[Operand.tmp 67, Operand.tmp 72], argTypes := #[42, 42] }, type := 42, pos := "parse.go:97", after := #[{ on := 4, ground := Ground.data }, { on := 9, ground := Ground.data }, { on := 8, ground := Ground.chain }], guard := none }) rfl (fun K hK => ?_) AllReadyH.nil)
        have TL : ∀ q, q < w5.heap.size → newR O w5.heap.size w6.heap.size (z, 5) q = O q := fun q hq => newR_old hq
        have OH := Lib.hid (((((HH.out.1.tell TL).later Y6.out).later Y7.out)))
        have BH : Hid (BlR w7 lo (newR O w5.heap.size w6.heap.size (z, 5)) (z, 5) hs y.bl) := Lib.hid ⟨HH.out.2.1, fun i q k hq hk => (((HH.out.2.2 i q k hq hk).tell TL).later Y6.out).later Y7.out⟩
        have EHn := Lib.hid ((OwR.made (who := (z, 5)) (O := O) R6.out S5.out.hi).later Y7.out)
        have S8 := Lib.hid ((((S5.out.tell TL).later Y6.out)).later Y7.out)
        refine RE.step_put EH _ rfl (.tmp 67) (.tmp 72) rfl (base := lo) x.b.A hs.length x.b.c hs (some ⟨w6.heap.size, 0, none⟩) 1 1 [⟨A6, l.length, c6⟩] (by simp [Act.eval, Act.put]) (by simp [Act.eval, Act.put]) OH.out.2.1 rfl HC.out S7.out.hi rfl (by omega) RV.out ?_
        intro A3 c3 w8 r1 r2 r3
        have c7 := (S8.out.blk_b OH.out r2).c4 HX.out
        have f7 := (S8.out.blk_b OH.out r2).fr (z * 5 + 4)
        have S9 := S8.out.bl HX.out HY.out OH.out BH.out EHn.out r1 r2 r3
        clear r1 r2 r3 TL
        refine hK.out _ _ trivial (fun hHeld => ?_)
        clear hHeld hK K
        try simp only [pu, pn, s1, s2, s3]
        refine wT (i := 11) (oi := { dst := some 74, op := Op.nilCheck (Operand.tmp 63), type := 0, pos := "parse.go:97", after := #[{ on := 0, ground := Ground.data }, { on := 0, ground := Ground.phase }, { on := 1, ground := Ground.phase }, { on := 2, ground := Ground.phase }, { on := 3, ground := Ground.phase }, { on := 4, ground := Ground.phase }, { on := 5, ground := Ground.phase }, { on := 6, ground := Ground.phase }, { on := 7, ground := Ground.phase }, { on := 8, ground := Ground.phase }, { on := 9, ground := Ground.phase }, { on := 10, ground := Ground.phase }], guard := none }) (v := ?_) rfl (Or.inl ⟨by rfl, ?_⟩) trivial ?_
        rotate_left
        · intro w hSw; clear hSw; go_simp; try with_reducible rfl
        try simp only [pu, pn, s1, s2, s3]
        refine wT (i := 12) (oi := { dst := some 75, op := Op.fieldAddr 44 (Operand.tmp 74) 4, type := 0, pos := "parse.go:97", after := #[{ on := 11, ground := Ground.data }, { on := 0, ground := Ground.phase }, { on := 1, ground := Ground.phase }, { on := 2, ground := Ground.phase }, { on := 3, ground := Ground.phase }, { on := 4, ground := Ground.phase }, { on := 5, ground := Ground.phase }, { on := 6, ground := Ground.phase }, { on := 7, ground := Ground.phase }, { on := 8, ground := Ground.phase }, { on := 9, ground := Ground.phase }, { on := 10, ground := Ground.phase }], guard := none }) (v := ?_) rfl (Or.inl ⟨by rfl, ?_⟩) trivial ?_
        rotate_left
        · intro w hSw; clear hSw; go_simp; try with_reducible rfl
        try simp only [pu, pn, s1, s2, s3]
        refine wpAnyH_ready (rs := [13]) (by kernel_rfl) (by simp) ?_
        refine (AllReadyH.cons (o := { dst := none, op := Op.store 42 (Operand.tmp 75) (Operand.tmp 73), type := 0, pos := "parse.go:97", after := #[{ on := 12, ground := Ground.data }, { on := 10, ground := Ground.data }, { on := 10, ground := Ground.chain }, { on := 0, ground := Ground.phase }, { on := 1, ground := Ground.phase }, { on := 2, ground := Ground.phase }, { on := 3, ground := Ground.phase }, { on := 4, ground := Ground.phase }, { on := 5, ground := Ground.phase }, { on := 6, ground := Ground.phase }, { on := 7, ground := Ground.phase }, { on := 8, ground := Ground.phase }, { on := 9, ground := Ground.phase }, { on := 10, ground := Ground.phase }], guard := none }) rfl (fun K hK => ?_) AllReadyH.nil)
        go_simp
        clear c7 f7
        obtain ⟨w9, hw9⟩ : ∃ W, W = w8.setCell ⟨nb, z * 5 + 4, none⟩ (.slice A3 (hs.length + 1) c3) := ⟨_, rfl⟩
        rw [← hw9] at S9 ⊢
        clear hw9
        refine hK.out _ _ trivial (fun hHeld => ?_)
        clear hHeld hK K
        try simp only [pu, pn, s1, s2, s3]
        refine wpAnyH_done (by kernel_rfl) ?_ _
        go_wp2
        go_end0
        exact ⟨⟨rfl, _, _, S9.1, fun q hq => by have h5 := Nat.lt_of_lt_of_le hq HSZ.out; rw [newO_old (Nat.lt_of_lt_of_le h5 (Nat.le_trans Y6.out.size Y7.out.size)), newR_old h5]⟩, B7.out.trans S9.2⟩
      · go_simp
        obtain ⟨w7, hw7⟩ : ∃ W, W = w6.alloc (.cells #[.slice A6 l.length c6] 69) := ⟨_, rfl⟩
        have Y7 := Lib.hid (show Below w6.heap.size w6 w7 by rw [hw7]; exact alb w6 _)
        have S7 := Lib.hid (S6.out.later Y7.out)
        have B7 := Lib.hid (B6.out.trans (Y7.out.mono S6.out.gb.le))
        have RV := Lib.hid (show EH.Rd w7 (some ⟨w6.heap.size, 0, none⟩) [⟨A6, l.length, c6⟩] by rw [hw7]; exact RE.Rd.lit (E := EH) w6 69 [⟨A6, l.length, c6⟩] #[.slice A6 l.length c6] rfl)
        rw [← hw7]
        clear hw7
        refine hK.out _ _ trivial (fun hHeld => ?_)
        clear hHeld hK K
        try simp only [pu, pn, s1, s2, s3]
        refine wpAnyH_ready (rs := [4]) (by kernel_rfl) (by simp) ?_
        refine (AllReadyH.cons (o := { dst := some 67, op := Op.load 42 (Operand.tmp 66), type := 42, pos := "parse.go:97", after := #[{ on := 3, ground := Ground.data }], guard := none }) rfl (fun K hK => ?_) AllReadyH.nil)
        have c3 := S7.out.st.blk.c4 HX.out
        rw [HXN.out] at c3
        go_simp
        clear c3
        refine hK.out _ _ trivial (fun hHeld => ?_)
        clear hHeld hK K
        try simp only [pu, pn, s1, s2, s3]
        refine wpAnyH_ready (rs := [10]) (by kernel_rfl) (by simp) ?_
        refine (AllReadyH.cons (o := { dst := some 73, op := Op.call { callee := Callee.builtin Builtin.append, args := #[Operand.tmp 67, Operand.tmp 72], argTypes := #[42, 42] }, type := 42, pos := "parse.go:97", after := #[{ on := 4, ground := Ground.data }, { on := 9, ground := Ground.data }, { on := 8, ground := Ground.chain }], guard := none }) rfl (fun K hK => ?_) AllReadyH.nil)
        have TL : ∀ q, q < w5.heap.size → newR O w5.heap.size w6.heap.size (z, 5) q = O q := fun q hq => newR_old hq
        have OH := Lib.hid (((((HH.out.1.tell TL).later Y6.out).later Y7.out)))
        have BH : Hid (BlR w7 lo (newR O w5.heap.size w6.heap.size (z, 5)) (z, 5) hs y.bl) := Lib.hid ⟨HH.out.2.1, fun i q k hq hk => (((HH.out.2.2 i q k hq hk).tell TL).later Y6.out).later Y7.out⟩
        have EHn := Lib.hid ((OwR.made (who := (z, 5)) (O := O) R6.out S5.out.hi).later Y7.out)
        have S8 := Lib.hid ((((S5.out.tell TL).later Y6.out)).later Y7.out)
        refine RE.step_put EH _ rfl (.tmp 67) (.tmp 72) rfl (base := lo) x.b.A hs.length x.b.c hs (some ⟨w6.heap.size, 0, none⟩) 1 1 [⟨A6, l.length, c6⟩] (by simp [Act.eval, Act.put]) (by simp [Act.eval, Act.put]) OH.out.2.1 rfl HC.out S7.out.hi rfl (by omega) RV.out ?_
        intro A3 c3 w8 r1 r2 r3
        have c7 := (S8.out.blk_b OH.out r2).c4 HX.out
        have f7 := (S8.out.blk_b OH.out r2).fr (z * 5 + 4)
        have S9 := S8.out.bl HX.out HY.out OH.out BH.out EHn.out r1 r2 r3
        clear r1 r2 r3 TL
        refine hK.out _ _ trivial (fun hHeld => ?_)
        clear hHeld hK K
        try simp only [pu, pn, s1, s2, s3]
        refine wT (i := 11) (oi := { dst := some 74, op := Op.nilCheck (Operand.tmp 63), type := 0, pos := "parse.go:97", after := #[{ on := 0, ground := Ground.data }, { on := 0, ground := Ground.phase }, { on := 1, ground := Ground.phase }, { on := 2, ground := Ground.phase }, { on := 3, ground := Ground.phase }, { on := 4, ground := Ground.phase }, { on := 5, ground := Ground.phase }, { on := 6, ground := Ground.phase }, { on := 7, ground := Ground.phase }, { on := 8, ground := Ground.phase }, { on := 9, ground := Ground.phase }, { on := 10, ground := Ground.phase }], guard := none }) (v := ?_) rfl (Or.inl ⟨by rfl, ?_⟩) trivial ?_
        rotate_left
        · intro w hSw; clear hSw; go_simp; try with_reducible rfl
        try simp only [pu, pn, s1, s2, s3]
        refine wT (i := 12) (oi := { dst := some 75, op := Op.fieldAddr 44 (Operand.tmp 74) 4, type := 0, pos := "parse.go:97", after := #[{ on := 11, ground := Ground.data }, { on := 0, ground := Ground.phase }, { on := 1, ground := Ground.phase }, { on := 2, ground := Ground.phase }, { on := 3, ground := Ground.phase }, { on := 4, ground := Ground.phase }, { on := 5, ground := Ground.phase }, { on := 6, ground := Ground.phase }, { on := 7, ground := Ground.phase }, { on := 8, ground := Ground.phase }, { on := 9, ground := Ground.phase }, { on := 10, ground := Ground.phase }], guard := none }) (v := ?_) rfl (Or.inl ⟨by rfl, ?_⟩) trivial ?_
        rotate_left
        · intro w hSw; clear hSw; go_simp; try with_reducible rfl
        try simp only [pu, pn, s1, s2, s3]
        refine wpAnyH_ready (rs := [13]) (by kernel_rfl) (by simp) ?_
        refine (AllReadyH.cons (o := { dst := none, op := Op.store 42 (Operand.tmp 75) (Operand.tmp 73), type := 0, pos := "parse.go:97", after := #[{ on := 12, ground := Ground.data }, { on := 10, ground := Ground.data }, { on := 10, ground := Ground.chain }, { on := 0, ground := Ground.phase }, { on := 1, ground := Ground.phase }, { on := 2, ground := Ground.phase }, { on := 3, ground := Ground.phase }, { on := 4, ground := Ground.phase }, { on := 5, ground := Ground.phase }, { on := 6, ground := Ground.phase }, { on := 7, ground := Ground.phase }, { on := 8, ground := Ground.phase }, { on := 9, ground := Ground.phase }, { on := 10, ground := Ground.phase }], guard := none }) rfl (fun K hK => ?_) AllReadyH.nil)
        go_simp
        clear c7 f7
        obtain ⟨w9, hw9⟩ : ∃ W, W = w8.setCell ⟨nb, z * 5 + 4, none⟩ (.slice A3 (hs.length + 1) c3) := ⟨_, rfl⟩
        rw [← hw9] at S9 ⊢
        clear hw9
        refine hK.out _ _ trivial (fun hHeld => ?_)
        clear hHeld hK K
        try simp only [pu, pn, s1, s2, s3]
        refine wpAnyH_done (by kernel_rfl) ?_ _
        go_wp2
        go_end0
        exact ⟨⟨rfl, _, _, S9.1, fun q hq => by have h5 := Nat.lt_of_lt_of_le hq HSZ.out; rw [newO_old (Nat.lt_of_lt_of_le h5 (Nat.le_trans Y6.out.size Y7.out.size)), newR_old h5]⟩, B7.out.trans S9.2⟩
end Go.Proofs.YtdebedeebmmleaaGreatDoor
