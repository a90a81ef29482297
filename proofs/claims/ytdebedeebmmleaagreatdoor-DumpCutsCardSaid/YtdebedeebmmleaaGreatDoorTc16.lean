/- Texts of the proof, one behind the other. -/
import Derived.Test.YtdebedeebmmleaaGreatDoorTc01
import Derived.Test.YtdebedeebmmleaaGreatDoorTc15
set_option linter.unusedVariables false
set_option linter.unusedSimpArgs false
namespace Go.Proofs.YtdebedeebmmleaaGreatDoor
open Go.RowKit Go.Maps
section
variable {B lo nb g n z : Nat} {t : ByteArray} {ln : Int} {O : Nat → Nat × Nat} {ns : List NC} {ys : List NdV} {w : World}
theorem BSt.blk_ms (h : BSt B lo nb g n z t ln O ns ys w) {w1 : World} {x : NC} {y : NdV} (hx : ns[z]? = some x) (hy : ys[z]? = some y) (hg : w.grownBy w1 (RE.fp x.m.A x.m.c)) : NB w1 nb ns :=
  h.st.blk.chg (Chg.grown hg) (fun e => by have := ((h.st.row z x y hx hy).m.2.1.fp_lt e).1; have := h.st.lt; omega)
theorem BSt.ms (h : BSt B lo nb g n z t ln O ns ys w) {w1 : World} {x : NC} {y : NdV} {A' : Option Addr} {c' : Nat} {m : M} (hx : ns[z]? = some x) (hy : ys[z]? = some y) (h1 : EM.Row w1 lo A' (y.ms ++ [m]) c') (hg : w.grownBy w1 (RE.fp x.m.A x.m.c)) (hf : RE.fp A' c' = none ∨ RE.fp A' c' = RE.fp x.m.A x.m.c ∨ RE.fp A' c' = some w.heap.size) :
    BSt B lo nb g n z t ln (newO O w.heap.size (z, 3)) (ns.set z { x with m := ⟨A', y.ms.length + 1, c'⟩ }) (ys.set z { y with ms := y.ms ++ [m] }) (w1.setCell ⟨nb, z * 5 + 3, none⟩ (.slice A' (y.ms.length + 1) c')) ∧ Below B w (w1.setCell ⟨nb, z * 5 + 3, none⟩ (.slice A' (y.ms.length + 1) c')) := by
  obtain ⟨r1, r2⟩ := h.st.ms hx hy h1 hg hf
  have hl := h.lt
  have hr := (h.st.row z x y hx hy).m
  have hb : Below B w (w1.setCell ⟨nb, z * 5 + 3, none⟩ (.slice A' (y.ms.length + 1) c')) := r2.below (lo := B) (fun b e => by
    rcases e with e | e
    · omega
    · have := (hr.2.1.fp_lt e).1; omega) h.gb.le
  refine ⟨h.node (r2.keep h.rb (fun e => ?_)) r1 hb, hb⟩
  rcases e with e | e
  · omega
  · have := (hr.2.1.fp_lt e).1; omega
end
set_option maxHeartbeats 1500000 in
set_option maxRecDepth 100000 in
theorem msg_none {B lo nb g n z m : Nat} {t : ByteArray} {ln : Int} {O : Nat → Nat × Nat} {ns : List NC} {ys : List NdV} {w : World} {b : Nat} {ws : List ByteArray} (hS : BSt B lo nb g n z t ln O ns ys w) (hA : ES.Rd w (some ⟨b, 0, none⟩) ws) (hm : ws.length = m) (hmp : 0 < m) (h1 : ¬ ws[0]? = some (⟨#[108, 101, 97, 102]⟩ : ByteArray)) (h2 : ¬ ws[0]? = some (⟨#[105, 110, 110, 101, 114]⟩ : ByteArray)) (h3 : ¬ ws[0]? = some (⟨#[98, 108, 111, 99, 107]⟩ : ByteArray)) (hz : z = 0) :
    Calls Tryz.prog 32 #[.pointer (some ⟨g, 0, none⟩), .slice (some ⟨b, 0, none⟩) m m] w (RBd B lo nb g n t ln w O none) := by
  have c0 := wd_cell hA (i := 0) (by omega)
  have hw0 := wd_at (ws := ws) (i := 0) (by omega)
  obtain ⟨x0, hx0⟩ : ∃ x, wdA ws 0 = x := ⟨_, rfl⟩
  rw [hx0] at c0 hw0
  have d1 : (x0.toList == [108, 101, 97, 102]) = false := lit_ne (fun e => h1 (by rw [hw0]; exact congrArg some (ba_inj e)))
  have d2 : (x0.toList == [105, 110, 110, 101, 114]) = false := lit_ne (fun e => h2 (by rw [hw0]; exact congrArg some (ba_inj e)))
  have d3 : (x0.toList == [98, 108, 111, 99, 107]) = false := lit_ne (fun e => h3 (by rw [hw0]; exact congrArg some (ba_inj e)))
  have k0 : (0 : Int) < (m : Int) := by omega
  have HS := Lib.hid hS
  have LA := Lib.hid (last_none 2 0 hS.rb hz)
  clear hS hA hm hmp h1 h2 h3 hw0 hx0 hz
  go_enter Tryz.func32, Tryz.ntmps32
  go_wp2_with (first
    | (go_at_call 55; ((with_reducible refine LA.out.mono ?_); rintro e w5 ⟨rfl, b5⟩; have B5 := Lib.hid (b5.mono HS.out.gb.le); clear b5))
    | fail)
  exact ⟨rfl, rfl, B5.out⟩
set_option maxHeartbeats 1500000 in
set_option maxRecDepth 100000 in
theorem msg_other {B lo nb g n z m : Nat} {t : ByteArray} {ln : Int} {O : Nat → Nat × Nat} {ns : List NC} {ys : List NdV} {w : World} {b : Nat} {ws : List ByteArray} (hS : BSt B lo nb g n z t ln O ns ys w) (hA : ES.Rd w (some ⟨b, 0, none⟩) ws) (hm : ws.length = m) (hmp : 0 < m) (h1 : ¬ ws[0]? = some (⟨#[108, 101, 97, 102]⟩ : ByteArray)) (h2 : ¬ ws[0]? = some (⟨#[105, 110, 110, 101, 114]⟩ : ByteArray)) (h3 : ¬ ws[0]? = some (⟨#[98, 108, 111, 99, 107]⟩ : ByteArray)) (hz : 0 < z) {x : NC} {y : NdV} (hx : ns[z]? = some x) (hy : ys[z]? = some y) (hk : ¬ y.k = 2) :
    Calls Tryz.prog 32 #[.pointer (some ⟨g, 0, none⟩), .slice (some ⟨b, 0, none⟩) m m] w (RBd B lo nb g n t ln w O none) := by
  have c0 := wd_cell hA (i := 0) (by omega)
  have hw0 := wd_at (ws := ws) (i := 0) (by omega)
  obtain ⟨x0, hx0⟩ : ∃ x, wdA ws 0 = x := ⟨_, rfl⟩
  rw [hx0] at c0 hw0
  have d1 : (x0.toList == [108, 101, 97, 102]) = false := lit_ne (fun e => h1 (by rw [hw0]; exact congrArg some (ba_inj e)))
  have d2 : (x0.toList == [105, 110, 110, 101, 114]) = false := lit_ne (fun e => h2 (by rw [hw0]; exact congrArg some (ba_inj e)))
  have d3 : (x0.toList == [98, 108, 111, 99, 107]) = false := lit_ne (fun e => h3 (by rw [hw0]; exact congrArg some (ba_inj e)))
  have k0 : (0 : Int) < (m : Int) := by omega
  have HS := Lib.hid hS
  have hzn : z < n := by have := (List.getElem?_eq_some_iff.1 hx).1; have := hS.lt.2.2.2.2.2.2; omega
  have LA := Lib.hid (last_other 2 y.k hS.rb hz hzn (by rw [← (hS.st.row z x y hx hy).k]; exact hS.st.blk.c0 hx) hk)
  clear hS hA hm hmp h1 h2 h3 hw0 hx0 hz hx hy hk hzn
  go_enter Tryz.func32, Tryz.ntmps32
  go_wp2_with (first
    | (go_at_call 55; ((with_reducible refine LA.out.mono ?_); rintro e w5 ⟨rfl, b5⟩; have B5 := Lib.hid (b5.mono HS.out.gb.le); clear b5))
    | fail)
  exact ⟨rfl, rfl, B5.out⟩
set_option maxHeartbeats 1500000 in
set_option maxRecDepth 100000 in
theorem msg_any {B lo nb g n z m : Nat} {t : ByteArray} {ln : Int} {O : Nat → Nat × Nat} {ns : List NC} {ys : List NdV} {w : World} {b : Nat} {ws : List ByteArray} (hS : BSt B lo nb g n z t ln O ns ys w) (hA : ES.Rd w (some ⟨b, 0, none⟩) ws) (hm : ws.length = m) (hmp : 0 < m) (h1 : ¬ ws[0]? = some (⟨#[108, 101, 97, 102]⟩ : ByteArray)) (h2 : ¬ ws[0]? = some (⟨#[105, 110, 110, 101, 114]⟩ : ByteArray)) (h3 : ¬ ws[0]? = some (⟨#[98, 108, 111, 99, 107]⟩ : ByteArray)) (hz : 0 < z) {x : NC} {y : NdV} (hx : ns[z]? = some x) (hy : ys[z]? = some y) (hk : y.k = 2) (hc : y.ms.length ≤ 1000000) (hm4 : m ≤ 4000000) (hs : ∀ i, (wdA ws i).size ≤ 1000000) :
    Calls Tryz.prog 32 #[.pointer (some ⟨g, 0, none⟩), .slice (some ⟨b, 0, none⟩) m m] w (RBd B lo nb g n t ln w O ((mgB ws).map fun a => (z, ys.set z { y with ms := y.ms ++ [a] }))) := by
  have c0 := wd_cell hA (i := 0) (by omega)
  have hw0 := wd_at (ws := ws) (i := 0) (by omega)
  obtain ⟨x0, hx0⟩ : ∃ x, wdA ws 0 = x := ⟨_, rfl⟩
  rw [hx0] at c0 hw0
  have d1 : (x0.toList == [108, 101, 97, 102]) = false := lit_ne (fun e => h1 (by rw [hw0]; exact congrArg some (ba_inj e)))
  have d2 : (x0.toList == [105, 110, 110, 101, 114]) = false := lit_ne (fun e => h2 (by rw [hw0]; exact congrArg some (ba_inj e)))
  have d3 : (x0.toList == [98, 108, 111, 99, 107]) = false := lit_ne (fun e => h3 (by rw [hw0]; exact congrArg some (ba_inj e)))
  have k0 : (0 : Int) < (m : Int) := by omega
  have HS := Lib.hid hS
  have hzn : z < n := by have := (List.getElem?_eq_some_iff.1 hx).1; have := hS.lt.2.2.2.2.2.2; omega
  have LA := Lib.hid (last_ok 2 y.k hS.rb hz hzn (by rw [← (hS.st.row z x y hx hy).k]; exact hS.st.blk.c0 hx) hk)
  have HM := Lib.hid (fun V (h : Below w.heap.size w V) => rmsg_any (hS.rb.later h) (hS.gb.later h) hm hmp hm4 (hA.later h) hs)
  unfold RN at HM
  have HX := Lib.hid hx
  have HY := Lib.hid hy
  have HC := Lib.hid hc
  obtain ⟨r, hr⟩ : ∃ r, mgB ws = r := ⟨_, rfl⟩
  rw [hr] at HM ⊢
  clear hS hA hm hmp h1 h2 h3 hw0 hx0 hz hx hy hk hzn hc hm4 hs hr
  cases r with
  | none =>
    go_enter Tryz.func32, Tryz.ntmps32
    go_upto_region 2 with (first
      | (go_at_call 55; ((with_reducible refine LA.out.mono ?_); rintro e w5 ⟨rfl, b5⟩; have S5 := Lib.hid (HS.out.later b5); have B5 := Lib.hid (b5.mono HS.out.gb.le); replace HM := Lib.hid (fun V (h : Below w5.heap.size w5 V) => HM.out V (b5.trans (h.mono b5.size))); clear b5))
      | fail)
    refine wp_region_held_drew (S := fun _ : World => True) (by kernel_rfl) trivial (fun hHeld => ?_)
    clear hHeld
    refine wT (i := 0) (oi := { dst := some 11, op := Op.move (Operand.tmp 5), type := 95, pos := "parse.go:100", after := #[], guard := none }) (v := ?_) rfl (Or.inl ⟨by rfl, ?_⟩) trivial ?_
    rotate_left
    · intro w hSw; clear hSw; go_simp; try with_reducible rfl
    try simp only [pu, pn, s1, s2, s3]
    refine wT (i := 1) (oi := { dst := some 12, op := Op.move (Operand.tmp 5), type := 95, pos := "parse.go:100", after := #[], guard := none }) (v := ?_) rfl (Or.inl ⟨by rfl, ?_⟩) trivial ?_
    rotate_left
    · intro w hSw; clear hSw; go_simp; try with_reducible rfl
    try simp only [pu, pn, s1, s2, s3]
    refine wT (i := 2) (oi := { dst := some 13, op := Op.nilCheck (Operand.tmp 12), type := 0, pos := "parse.go:100", after := #[{ on := 1, ground := Ground.data }], guard := none }) (v := ?_) rfl (Or.inl ⟨by rfl, ?_⟩) trivial ?_
    rotate_left
    · intro w hSw; clear hSw; go_simp; try with_reducible rfl
    try simp only [pu, pn, s1, s2, s3]
    refine wT (i := 3) (oi := { dst := some 14, op := Op.fieldAddr 44 (Operand.tmp 13) 3, type := 0, pos := "parse.go:100", after := #[{ on := 2, ground := Ground.data }], guard := none }) (v := ?_) rfl (Or.inl ⟨by rfl, ?_⟩) trivial ?_
    rotate_left
    · intro w hSw; clear hSw; go_simp; try with_reducible rfl
    try simp only [pu, pn, s1, s2, s3]
    refine wT (i := 5) (oi := { dst := some 16, op := Op.move (Operand.tmp 0), type := 64, pos := "parse.go:100", after := #[], guard := none }) (v := ?_) rfl (Or.inl ⟨by rfl, ?_⟩) trivial ?_
    rotate_left
    · intro w hSw; clear hSw; go_simp; try with_reducible rfl
    try simp only [pu, pn, s1, s2, s3]
    refine wT (i := 6) (oi := { dst := some 17, op := Op.move (Operand.tmp 1), type := 39, pos := "parse.go:100", after := #[], guard := none }) (v := ?_) rfl (Or.inl ⟨by rfl, ?_⟩) trivial ?_
    rotate_left
    · intro w hSw; clear hSw; go_simp; try with_reducible rfl
    try simp only [pu, pn, s1, s2, s3]
    refine wpAnyH_ready (rs := [4, 7]) (by kernel_rfl) (by simp) ?_
    refine (AllReadyH.cons (o := { dst := some 15, op := Op.load 41 (Operand.tmp 14), type := 41, pos := "parse.go:100", after := #[{ on := 3, ground := Ground.data }], guard := none }) rfl (fun K hK => ?_) (AllReadyH.cons (o := { dst := some 18, op := Op.call { callee := Callee.value (Operand.func 57), args := #[Operand.tmp 16, Operand.tmp 17], argTypes := #[64, 39] }, type := 73, pos := "parse.go:100", after := #[{ on := 5, ground := Ground.data }, { on := 6, ground := Ground.data }], guard := none }) rfl (fun K hK => ?_) AllReadyH.nil))
    · have c3 := S5.out.st.blk.c3 HX.out
      rw [show x.m.n = y.ms.length from (S5.out.st.row z x y HX.out HY.out).m.1] at c3
      go_simp
      clear c3
      refine hK.out _ _ trivial (fun hHeld => ?_)
      clear hHeld hK K
      try simp only [pu, pn, s1, s2, s3]
      refine wpAnyH_ready (rs := [7]) (by kernel_rfl) (by simp) ?_
      refine (AllReadyH.cons (o := { dst := some 18, op := Op.call { callee := Callee.value (Operand.func 57), args := #[Operand.tmp 16, Operand.tmp 17], argTypes := #[64, 39] }, type := 73, pos := "parse.go:100", after := #[{ on := 5, ground := Ground.data }, { on := 6, ground := Ground.data }], guard := none }) rfl (fun K hK => ?_) AllReadyH.nil)
      go_simp
      (go_at_call 57; ((with_reducible refine (HM.out _ (Below.refl _ w5).drew).mono ?_); rintro e w6 ⟨rfl, b6⟩; have S6 := Lib.hid (S5.out.later (bel_dr b6)); have B6 := Lib.hid (B5.out.trans ((bel_dr b6).mono S5.out.gb.le)); clear b6))
      exact ⟨rfl, rfl, B6.out⟩
    · go_simp
      (go_at_call 57; ((with_reducible refine (HM.out _ (Below.refl _ w5).drew).mono ?_); rintro e w6 ⟨rfl, b6⟩; have S6 := Lib.hid (S5.out.later (bel_dr b6)); have B6 := Lib.hid (B5.out.trans ((bel_dr b6).mono S5.out.gb.le)); clear b6))
      exact ⟨rfl, rfl, B6.out⟩
  | some a =>
    go_enter Tryz.func32, Tryz.ntmps32
    go_upto_region 2 with (first
      | (go_at_call 55; ((with_reducible refine LA.out.mono ?_); rintro e w5 ⟨rfl, b5⟩; have S5 := Lib.hid (HS.out.later b5); have B5 := Lib.hid (b5.mono HS.out.gb.le); have HSZ := Lib.hid b5.size; replace HM := Lib.hid (fun V (h : Below w5.heap.size w5 V) => HM.out V (b5.trans (h.mono b5.size))); clear b5))
      | fail)
    refine wp_region_held_drew (S := fun _ : World => True) (by kernel_rfl) trivial (fun hHeld => ?_)
    clear hHeld
    refine wT (i := 0) (oi := { dst := some 11, op := Op.move (Operand.tmp 5), type := 95, pos := "parse.go:100", after := #[], guard := none }) (v := ?_) rfl (Or.inl ⟨by rfl, ?_⟩) trivial ?_
    rotate_left
    · intro w hSw; clear hSw; go_simp; try with_reducible rfl
    try simp only [pu, pn, s1, s2, s3]
    refine wT (i := 1) (oi := { dst := some 12, op := Op.move (Operand.tmp 5), type := 95, pos := "parse.go:100", after := #[], guard := none }) (v := ?_) rfl (Or.inl ⟨by rfl, ?_⟩) trivial ?_
    rotate_left
    · intro w hSw; clear hSw; go_simp; try with_reducible rfl
    try simp only [pu, pn, s1, s2, s3]
    refine wT (i := 2) (oi := { dst := some 13, op := Op.nilCheck (Operand.tmp 12), type := 0, pos := "parse.go:100", after := #[{ on := 1, ground := Ground.data }], guard := none }) (v := ?_) rfl (Or.inl ⟨by rfl, ?_⟩) trivial ?_
    rotate_left
    · intro w hSw; clear hSw; go_simp; try with_reducible rfl
    try simp only [pu, pn, s1, s2, s3]
    refine wT (i := 3) (oi := { dst := some 14, op := Op.fieldAddr 44 (Operand.tmp 13) 3, type := 0, pos := "parse.go:100", after := #[{ on := 2, ground := Ground.data }], guard := none }) (v := ?_) rfl (Or.inl ⟨by rfl, ?_⟩) trivial ?_
    rotate_left
    · intro w hSw; clear hSw; go_simp; try with_reducible rfl
    try simp only [pu, pn, s1, s2, s3]
    refine wT (i := 5) (oi := { dst := some 16, op := Op.move (Operand.tmp 0), type := 64, pos := "parse.go:100", after := #[], guard := none }) (v := ?_) rfl (Or.inl ⟨by rfl, ?_⟩) trivial ?_
    rotate_left
    · intro w hSw; clear hSw; go_simp; try with_reducible rfl
    try simp only [pu, pn, s1, s2, s3]
    refine wT (i := 6) (oi := { dst := some 17, op := Op.move (Operand.tmp 1), type := 39, pos := "parse.go:100", after := #[], guard := none }) (v := ?_) rfl (Or.inl ⟨by rfl, ?_⟩) trivial ?_
    rotate_left
    · intro w hSw; clear hSw; go_simp; try with_reducible rfl
    try simp only [pu, pn, s1, s2, s3]
    refine wpAnyH_ready (rs := [4, 7]) (by kernel_rfl) (by simp) ?_
    refine (AllReadyH.cons (o := { dst := some 15, op := Op.load 41 (Operand.tmp 14), type := 41, pos := "parse.go:100", after := #[{ on := 3, ground := Ground.data }], guard := none }) rfl (fun K hK => ?_) (AllReadyH.cons (o := { dst := some 18, op := Op.call { callee := Callee.value (Operand.func 57), args := #[Operand.tmp 16, Operand.tmp 17], argTypes := #[64, 39] }, type := 73, pos := "parse.go:100", after := #[{ on := 5, ground := Ground.data }, { on := 6, ground := Ground.data }], guard := none }) rfl (fun K hK => ?_) AllReadyH.nil))
    · have c3 := S5.out.st.blk.c3 HX.out
      rw [show x.m.n = y.ms.length from (S5.out.st.row z x y HX.out HY.out).m.1] at c3
      go_simp
      clear c3
      refine hK.out _ _ trivial (fun hHeld => ?_)
      clear hHeld hK K
      try simp only [pu, pn, s1, s2, s3]
      refine wpAnyH_ready (rs := [7]) (by kernel_rfl) (by simp) ?_
      refine (AllReadyH.cons (o := { dst := some 18, op := Op.call { callee := Callee.value (Operand.func 57), args := #[Operand.tmp 16, Operand.tmp 17], argTypes := #[64, 39] }, type := 73, pos := "parse.go:100", after := #[{ on := 5, ground := Ground.data }, { on := 6, ground := Ground.data }], guard := none }) rfl (fun K hK => ?_) AllReadyH.nil)
      go_simp
      (go_at_call 57; ((with_reducible refine (HM.out _ (Below.refl _ w5).drew).mono ?_); rintro e w6 ⟨rfl, b6⟩; have S6 := Lib.hid (S5.out.later (bel_dr b6)); have B6 := Lib.hid (B5.out.trans ((bel_dr b6).mono S5.out.gb.le)); clear b6))
      refine hK.out _ _ trivial (fun hHeld => ?_)
      clear hHeld hK K
      try simp only [pu, pn, s1, s2, s3]
      refine wpAnyH_ready (rs := [8]) (by kernel_rfl) (by simp) ?_
      refine (AllReadyH.cons (o := { dst := some 19, op := Op.buildSlice 41 1 #[(0, Operand.tmp 18)], type := 41, pos := "parse.go:100", after := #[{ on := 7, ground := Ground.data }], guard := none }) rfl (fun K hK => ?_) AllReadyH.nil)
      try simp only [M.v]
      go_simp
      obtain ⟨w7, hw7⟩ : ∃ W, W = w6.alloc (.cells #[.int .u8 a.k, .int .i64 a.q, .string a.key, .string a.too, .string a.val, .int .u64 a.dl] 73) := ⟨_, rfl⟩
      have S7 := Lib.hid (S6.out.later (show Below w6.heap.size w6 w7 by rw [hw7]; exact alb w6 _))
      have B7 := Lib.hid (B6.out.trans (show Below B w6 w7 by rw [hw7]; exact (alb w6 _).mono S6.out.gb.le))
      have RV := Lib.hid (show EM.Rd w7 (some ⟨w6.heap.size, 0, none⟩) [a] by rw [hw7]; exact RE.Rd.lit (E := EM) w6 73 [a] #[.int .u8 a.k, .int .i64 a.q, .string a.key, .string a.too, .string a.val, .int .u64 a.dl] rfl)
      rw [← hw7]
      clear hw7
      refine hK.out _ _ trivial (fun hHeld => ?_)
      clear hHeld hK K
      try simp only [pu, pn, s1, s2, s3]
      refine wpAnyH_ready (rs := [9]) (by kernel_rfl) (by simp) ?_
      refine (AllReadyH.cons (o := { dst := some 20, op := Op.call { callee := Callee.builtin Builtin.append, args := #[Operand.tmp 15, Operand.tmp 19], argTypes := #[41, 41] }, type := 41, pos := "parse.go:100", after := #[{ on := 4, ground := Ground.data }, { on := 8, ground := Ground.data }, { on := 7, ground := Ground.chain }], guard := none }) rfl (fun K hK => ?_) AllReadyH.nil)
      refine RE.step_put EM _ rfl (.tmp 15) (.tmp 19) rfl (base := lo) x.m.A y.ms.length x.m.c y.ms (some ⟨w6.heap.size, 0, none⟩) 1 1 [a] (by simp [Act.eval, Act.put]) (by simp [Act.eval, Act.put]) (S7.out.st.row z x y HX.out HY.out).m.2.1 rfl HC.out S7.out.hi rfl (by omega) RV.out ?_
      intro A3 c3 w8 r1 r2 r3
      have c7 := (S7.out.blk_ms HX.out HY.out r2).c3 HX.out
      have f7 := (S7.out.blk_ms HX.out HY.out r2).fr (z * 5 + 3)
      have S9 := S7.out.ms HX.out HY.out r1 r2 r3
      clear r1 r2 r3
      refine hK.out _ _ trivial (fun hHeld => ?_)
      clear hHeld hK K
      try simp only [pu, pn, s1, s2, s3]
      refine wT (i := 10) (oi := { dst := some 21, op := Op.nilCheck (Operand.tmp 11), type := 0, pos := "parse.go:100", after := #[{ on := 0, ground := Ground.data }, { on := 0, ground := Ground.phase }, { on := 1, ground := Ground.phase }, { on := 2, ground := Ground.phase }, { on := 3, ground := Ground.phase }, { on := 4, ground := Ground.phase }, { on := 5, ground := Ground.phase }, { on := 6, ground := Ground.phase }, { on := 7, ground := Ground.phase }, { on := 8, ground := Ground.phase }, { on := 9, ground := Ground.phase }], guard := none }) (v := ?_) rfl (Or.inl ⟨by rfl, ?_⟩) trivial ?_
      rotate_left
      · intro w hSw; clear hSw; go_simp; try with_reducible rfl
      try simp only [pu, pn, s1, s2, s3]
      refine wT (i := 11) (oi := { dst := some 22, op := Op.fieldAddr 44 (Operand.tmp 21) 3, type := 0, pos := "parse.go:100", after := #[{ on := 10, ground := Ground.data }, { on := 0, ground := Ground.phase }, { on := 1, ground := Ground.phase }, { on := 2, ground := Ground.phase }, { on := 3, ground := Ground.phase }, { on := 4, ground := Ground.phase }, { on := 5, ground := Ground.phase }, { on := 6, ground := Ground.phase }, { on := 7, ground := Ground.phase }, { on := 8, ground := Ground.phase }, { on := 9, ground := Ground.phase }], guard := none }) (v := ?_) rfl (Or.inl ⟨by rfl, ?_⟩) trivial ?_
      rotate_left
      · intro w hSw; clear hSw; go_simp; try with_reducible rfl
      try simp only [pu, pn, s1, s2, s3]
      refine wpAnyH_ready (rs := [12]) (by kernel_rfl) (by simp) ?_
      refine (AllReadyH.cons (o := { dst := none, op := Op.store 41 (Operand.tmp 22) (Operand.tmp 20), type := 0, pos := "parse.go:100", after := #[{ on := 11, ground := Ground.data }, { on := 9, ground := Ground.data }, { on := 9, ground := Ground.chain }, { on := 0, ground := Ground.phase }, { on := 1, ground := Ground.phase }, { on := 2, ground := Ground.phase }, { on := 3, ground := Ground.phase }, { on := 4, ground := Ground.phase }, { on := 5, ground := Ground.phase }, { on := 6, ground := Ground.phase }, { on := 7, ground := Ground.phase }, { on := 8, ground := Ground.phase }, { on := 9, ground := Ground.phase }], guard := none }) rfl (fun K hK => ?_) AllReadyH.nil)
      go_simp
      clear c7 f7
      obtain ⟨w9, hw9⟩ : ∃ W, W = w8.setCell ⟨nb, z * 5 + 3, none⟩ (.slice A3 (y.ms.length + 1) c3) := ⟨_, rfl⟩
      rw [← hw9] at S9 ⊢
      clear hw9
      refine hK.out _ _ trivial (fun hHeld => ?_)
      clear hHeld hK K
      try simp only [pu, pn, s1, s2, s3]
      refine wpAnyH_done (by kernel_rfl) ?_ _
      go_wp2
      go_end0
      exact ⟨⟨rfl, _, _, S9.1, fun q hq => newO_old (Nat.lt_of_lt_of_le hq B7.out.size)⟩, B7.out.trans S9.2⟩
    · go_simp
      (go_at_call 57; ((with_reducible refine (HM.out _ (Below.refl _ w5).drew).mono ?_); rintro e w6 ⟨rfl, b6⟩; have S6 := Lib.hid (S5.out.later (bel_dr b6)); have B6 := Lib.hid (B5.out.trans ((bel_dr b6).mono S5.out.gb.le)); clear b6))
      refine hK.out _ _ trivial (fun hHeld => ?_)
      clear hHeld hK K
      try simp only [pu, pn, s1, s2, s3]
      refine wpAnyH_ready (rs := [4, 8]) (by kernel_rfl) (by simp) ?_
      refine (AllReadyH.cons (o := { dst := some 15, op := Op.load 41 (Operand.tmp 14), type := 41, pos := "parse.go:100", after := #[{ on := 3, ground := Ground.data }], guard := none }) rfl (fun K hK => ?_) (AllReadyH.cons (o := { dst := some 19, op := Op.buildSlice 41 1 #[(0, Operand.tmp 18)], type := 41, pos := "parse.go:100", after := #[{ on := 7, ground := Ground.data }], guard := none }) rfl (fun K hK => ?_) AllReadyH.nil))
      · have c3 := S6.out.st.blk.c3 HX.out
        rw [show x.m.n = y.ms.length from (S6.out.st.row z x y HX.out HY.out).m.1] at c3
        go_simp
        clear c3
        refine hK.out _ _ trivial (fun hHeld => ?_)
        clear hHeld hK K
        try simp only [pu, pn, s1, s2, s3]
        refine wpAnyH_ready (rs := [8]) (by kernel_rfl) (by simp) ?_
        refine (AllReadyH.cons (o := { dst := some 19, op := Op.buildSlice 41 1 #[(0, Operand.tmp 18)], type := 41, pos := "parse.go:100", after := #[{ on := 7, ground := Ground.data }], guard := none }) rfl (fun K hK => ?_) AllReadyH.nil)
        try simp only [M.v]
        go_simp
        obtain ⟨w7, hw7⟩ : ∃ W, W = w6.alloc (.cells #[.int .u8 a.k, .int .i64 a.q, .string a.key, .string a.too, .string a.val, .int .u64 a.dl] 73) := ⟨_, rfl⟩
        have S7 := Lib.hid (S6.out.later (show Below w6.heap.size w6 w7 by rw [hw7]; exact alb w6 _))
        have B7 := Lib.hid (B6.out.trans (show Below B w6 w7 by rw [hw7]; exact (alb w6 _).mono S6.out.gb.le))
        have RV := Lib.hid (show EM.Rd w7 (some ⟨w6.heap.size, 0, none⟩) [a] by rw [hw7]; exact RE.Rd.lit (E := EM) w6 73 [a] #[.int .u8 a.k, .int .i64 a.q, .string a.key, .string a.too, .string a.val, .int .u64 a.dl] rfl)
        rw [← hw7]
        clear hw7
        refine hK.out _ _ trivial (fun hHeld => ?_)
        clear hHeld hK K
        try simp only [pu, pn, s1, s2, s3]
        refine wpAnyH_ready (rs := [9]) (by kernel_rfl) (by simp) ?_
        refine (AllReadyH.cons (o := { dst := some 20, op := Op.call { callee := Callee.builtin Builtin.append, args := #[Operand.tmp 15, Operand.tmp 19], argTypes := #[41, 41] }, type := 41, pos := "parse.go:100", after := #[{ on := 4, ground := Ground.data }, { on := 8, ground := Ground.data }, { on := 7, ground := Ground.chain }], guard := none }) rfl (fun K hK => ?_) AllReadyH.nil)
        refine RE.step_put EM _ rfl (.tmp 15) (.tmp 19) rfl (base := lo) x.m.A y.ms.length x.m.c y.ms (some ⟨w6.heap.size, 0, none⟩) 1 1 [a] (by simp [Act.eval, Act.put]) (by simp [Act.eval, Act.put]) (S7.out.st.row z x y HX.out HY.out).m.2.1 rfl HC.out S7.out.hi rfl (by omega) RV.out ?_
        intro A3 c3 w8 r1 r2 r3
        have c7 := (S7.out.blk_ms HX.out HY.out r2).c3 HX.out
        have f7 := (S7.out.blk_ms HX.out HY.out r2).fr (z * 5 + 3)
        have S9 := S7.out.ms HX.out HY.out r1 r2 r3
        clear r1 r2 r3
        refine hK.out _ _ trivial (fun hHeld => ?_)
        clear hHeld hK K
        try simp only [pu, pn, s1, s2, s3]
        refine wT (i := 10) (oi := { dst := some 21, op := Op.nilCheck (Operand.tmp 11), type := 0, pos := "parse.go:100", after := #[{ on := 0, ground := Ground.data }, { on := 0, ground := Ground.phase }, { on := 1, ground := Ground.phase }, { on := 2, ground := Ground.phase }, { on := 3, ground := Ground.phase }, { on := 4, ground := Ground.phase }, { on := 5, ground := Ground.phase }, { on := 6, ground := Ground.phase }, { on := 7, ground := Ground.phase }, { on := 8, ground := Ground.phase }, { on := 9, ground := Ground.phase }], guard := none }) (v := ?_) rfl (Or.inl ⟨by rfl, ?_⟩) trivial ?_
        rotate_left
        · intro w hSw; clear hSw; go_simp; try with_reducible rfl
        try simp only [pu, pn, s1, s2, s3]
        refine wT (i := 11) (oi := { dst := some 22, op := Op.fieldAddr 44 (Operand.tmp 21) 3, type := 0, pos := "parse.go:100", after := #[{ on := 10, ground := Ground.data }, { on := 0, ground := Ground.phase }, { on := 1, ground := Ground.phase }, { on := 2, ground := Ground.phase }, { on := 3, ground := Ground.phase }, { on := 4, ground := Ground.phase }, { on := 5, ground := Ground.phase }, { on := 6, ground := Ground.phase }, { on := 7, ground := Ground.phase }, { on := 8, ground := Ground.phase }, { on := 9, ground := Ground.phase }], guard := none }) (v := ?_) rfl (Or.inl ⟨by rfl, ?_⟩) trivial ?_
        rotate_left
        · intro w hSw; clear hSw; go_simp; try with_reducible rfl
        try simp only [pu, pn, s1, s2, s3]
        refine wpAnyH_ready (rs := [12]) (by kernel_rfl) (by simp) ?_
        refine (AllReadyH.cons (o := { dst := none, op := Op.store 41 (Operand.tmp 22) (Operand.tmp 20), type := 0, pos := "parse.go:100", after := #[{ on := 11, ground := Ground.data }, { on := 9, ground := Ground.data }, { on := 9, ground := Ground.chain }, { on := 0, ground := Ground.phase }, { on := 1, ground := Ground.phase }, { on := 2, ground := Ground.phase }, { on := 3, ground := Ground.phase }, { on := 4, ground := Ground.phase }, { on := 5, ground := Ground.phase }, { on := 6, ground := Ground.phase }, { on := 7, ground := Ground.phase }, { on := 8, ground := Ground.phase }, { on := 9, ground := Ground.phase }], guard := none }) rfl (fun K hK => ?_) AllReadyH.nil)
        go_simp
        clear c7 f7
        obtain ⟨w9, hw9⟩ : ∃ W, W = w8.setCell ⟨nb, z * 5 + 3, none⟩ (.slice A3 (y.ms.length + 1) c3) := ⟨_, rfl⟩
        rw [← hw9] at S9 ⊢
        clear hw9
        refine hK.out _ _ trivial (fun hHeld => ?_)
        clear hHeld hK K
        try simp only [pu, pn, s1, s2, s3]
        refine wpAnyH_done (by kernel_rfl) ?_ _
        go_wp2
        go_end0
        exact ⟨⟨rfl, _, _, S9.1, fun q hq => newO_old (Nat.lt_of_lt_of_le hq B7.out.size)⟩, B7.out.trans S9.2⟩
      · try simp only [M.v]
        go_simp
        obtain ⟨w7, hw7⟩ : ∃ W, W = w6.alloc (.cells #[.int .u8 a.k, .int .i64 a.q, .string a.key, .string a.too, .string a.val, .int .u64 a.dl] 73) := ⟨_, rfl⟩
        have S7 := Lib.hid (S6.out.later (show Below w6.heap.size w6 w7 by rw [hw7]; exact alb w6 _))
        have B7 := Lib.hid (B6.out.trans (show Below B w6 w7 by rw [hw7]; exact (alb w6 _).mono S6.out.gb.le))
        have RV := Lib.hid (show EM.Rd w7 (some ⟨w6.heap.size, 0, none⟩) [a] by rw [hw7]; exact RE.Rd.lit (E := EM) w6 73 [a] #[.int .u8 a.k, .int .i64 a.q, .string a.key, .string a.too, .string a.val, .int .u64 a.dl] rfl)
        rw [← hw7]
        clear hw7
        refine hK.out _ _ trivial (fun hHeld => ?_)
        clear hHeld hK K
        try simp only [pu, pn, s1, s2, s3]
        refine wpAnyH_ready (rs := [4]) (by kernel_rfl) (by simp) ?_
        refine (AllReadyH.cons (o := { dst := some 15, op := Op.load 41 (Operand.tmp 14), type := 41, pos := "parse.go:100", after := #[{ on := 3, ground := Ground.data }], guard := none }) rfl (fun K hK => ?_) AllReadyH.nil)
        have c3 := S7.out.st.blk.c3 HX.out
        rw [show x.m.n = y.ms.length from (S7.out.st.row z x y HX.out HY.out).m.1] at c3
        go_simp
        clear c3
        refine hK.out _ _ trivial (fun hHeld => ?_)
        clear hHeld hK K
        try simp only [pu, pn, s1, s2, s3]
        refine wpAnyH_ready (rs := [9]) (by kernel_rfl) (by simp) ?_
        refine (AllReadyH.cons (o := { dst := some 20, op := Op.call { callee := Callee.builtin Builtin.append, args := #[Operand.tmp 15, Operand.tmp 19], argTypes := #[41, 41] }, type := 41, pos := "parse.go:100", after := #[{ on := 4, ground := Ground.data }, { on := 8, ground := Ground.data }, { on := 7, ground := Ground.chain }], guard := none }) rfl (fun K hK => ?_) AllReadyH.nil)
        refine RE.step_put EM _ rfl (.tmp 15) (.tmp 19) rfl (base := lo) x.m.A y.ms.length x.m.c y.ms (some ⟨w6.heap.size, 0, none⟩) 1 1 [a] (by simp [Act.eval, Act.put]) (by simp [Act.eval, Act.put]) (S7.out.st.row z x y HX.out HY.out).m.2.1 rfl HC.out S7.out.hi rfl (by omega) RV.out ?_
        intro A3 c3 w8 r1 r2 r3
        have c7 := (S7.out.blk_ms HX.out HY.out r2).c3 HX.out
        have f7 := (S7.out.blk_ms HX.out HY.out r2).fr (z * 5 + 3)
        have S9 := S7.out.ms HX.out HY.out r1 r2 r3
        clear r1 r2 r3
        refine hK.out _ _ trivial (fun hHeld => ?_)
        clear hHeld hK K
        try simp only [pu, pn, s1, s2, s3]
        refine wT (i := 10) (oi := { dst := some 21, op := Op.nilCheck (Operand.tmp 11), type := 0, pos := "parse.go:100", after := #[{ on := 0, ground := Ground.data }, { on := 0, ground := Ground.phase }, { on := 1, ground := Ground.phase }, { on := 2, ground := Ground.phase }, { on := 3, ground := Ground.phase }, { on := 4, ground := Ground.phase }, { on := 5, ground := Ground.phase }, { on := 6, ground := Ground.phase }, { on := 7, ground := Ground.phase }, { on := 8, ground := Ground.phase }, { on := 9, ground := Ground.phase }], guard := none }) (v := ?_) rfl (Or.inl ⟨by rfl, ?_⟩) trivial ?_
        rotate_left
        · intro w hSw; clear hSw; go_simp; try with_reducible rfl
        try simp only [pu, pn, s1, s2, s3]
        refine wT (i := 11) (oi := { dst := some 22, op := Op.fieldAddr 44 (Operand.tmp 21) 3, type := 0, pos := "parse.go:100", after := #[{ on := 10, ground := Ground.data }, { on := 0, ground := Ground.phase }, { on := 1, ground := Ground.phase }, { on := 2, ground := Ground.phase }, { on := 3, ground := Ground.phase }, { on := 4, ground := Ground.phase }, { on := 5, ground := Ground.phase }, { on := 6, ground := Ground.phase }, { on := 7, ground := Ground.phase }, { on := 8, ground := Ground.phase }, { on := 9, ground := Ground.phase }], guard := none }) (v := ?_) rfl (Or.inl ⟨by rfl, ?_⟩) trivial ?_
        rotate_left
        · intro w hSw; clear hSw; go_simp; try with_reducible rfl
        try simp only [pu, pn, s1, s2, s3]
        refine wpAnyH_ready (rs := [12]) (by kernel_rfl) (by simp) ?_
        refine (AllReadyH.cons (o := { dst := none, op := Op.store 41 (Operand.tmp 22) (Operand.tmp 20), type := 0, pos := "parse.go:100", after := #[{ on := 11, ground := Ground.data }, { on := 9, ground := Ground.data }, { on := 9, ground := Ground.chain }, { on := 0, ground := Ground.phase }, { on := 1, ground := Ground.phase }, { on := 2, ground := Ground.phase }, { on := 3, ground := Ground.phase }, { on := 4, ground := Ground.phase }, { on := 5, ground := Ground.phase }, { on := 6, ground := Ground.phase }, { on := 7, ground := Ground.phase }, { on := 8, ground := Ground.phase }, { on := 9, ground := Ground.phase }], guard := none }) rfl (fun K hK => ?_) AllReadyH.nil)
        go_simp
        clear c7 f7
        obtain ⟨w9, hw9⟩ : ∃ W, W = w8.setCell ⟨nb, z * 5 + 3, none⟩ (.slice A3 (y.ms.length + 1) c3) := ⟨_, rfl⟩
        rw [← hw9] at S9 ⊢
        clear hw9
        refine hK.out _ _ trivial (fun hHeld => ?_)
        clear hHeld hK K
        try simp only [pu, pn, s1, s2, s3]
        refine wpAnyH_done (by kernel_rfl) ?_ _
        go_wp2
        go_end0
        exact ⟨⟨rfl, _, _, S9.1, fun q hq => newO_old (Nat.lt_of_lt_of_le hq B7.out.size)⟩, B7.out.trans S9.2⟩
end Go.Proofs.YtdebedeebmmleaaGreatDoor
namespace Go.Proofs.YtdebedeebmmleaaGreatDoor
open Go.RowKit Go.Maps
/-- Whose blocks are, with those that a call made. -/
def newR (O : Nat → Nat × Nat) (lo hi : Nat) (who : Nat × Nat) : Nat → Nat × Nat := fun b => if lo ≤ b ∧ b < hi then who else O b
theorem newR_old {O : Nat → Nat × Nat} {lo hi b : Nat} {who : Nat × Nat} (h : b < lo) : newR O lo hi who b = O b := by unfold newR; rw [if_neg (by omega)]
theorem newR_new {O : Nat → Nat × Nat} {lo hi b : Nat} {who : Nat × Nat} (h : lo ≤ b) (k : b < hi) : newR O lo hi who b = who := by unfold newR; rw [if_pos ⟨h, k⟩]
/-- A row that a call made, told. -/
theorem OwR.made {α : Type} {E : RE α} {w w' : World} {lo : Nat} {O : Nat → Nat × Nat} {who : Nat × Nat} {A : Option Addr} {c : Nat} {l : List α} (h : E.Row w' w.heap.size A l c) (hlo : lo ≤ w.heap.size) : OwR E w' lo (newR O w.heap.size w'.heap.size who) who ⟨A, l.length, c⟩ l :=
  ⟨rfl, h.base hlo, fun b hb => newR_new (h.fp_lt hb).1 (h.fp_lt hb).2⟩
theorem NS.bl {w w1 : World} {lo nb z : Nat} {O : Nat → Nat × Nat} {ns : List NC} {ys : List NdV} {x : NC} {y : NdV} {A' : Option Addr} {c' : Nat} {hs : List Hd} {hd : Hd} {l : List EnV} (h : NS w lo nb O ns ys) (hx : ns[z]? = some x) (hy : ys[z]? = some y) (hh : OwR EH w lo O (z, 4) x.b hs) (hB : BlR w lo O (z, 5) hs y.bl) (he : OwR EE w lo O (z, 5) hd l) (h1 : EH.Row w1 lo A' (hs ++ [hd]) c') (hg : w.grownBy w1 (RE.fp x.b.A x.b.c)) (hf : RE.fp A' c' = none ∨ RE.fp A' c' = RE.fp x.b.A x.b.c ∨ RE.fp A' c' = some w.heap.size) :
    NS (w1.setCell ⟨nb, z * 5 + 4, none⟩ (.slice A' (hs.length + 1) c')) lo nb (newO O w.heap.size (z, 4)) (ns.set z { x with b := ⟨A', hs.length + 1, c'⟩ }) (ys.set z { y with bl := y.bl ++ [l] }) ∧ Chg (fun b => b = nb ∨ RE.fp x.b.A x.b.c = some b) w (w1.setCell ⟨nb, z * 5 + 4, none⟩ (.slice A' (hs.length + 1) c')) := by
  have h0 := h.row z x y hx hy
  have hlt := h.lt
  have hblk := h.blk.lt
  have CG := Chg.grown hg
  have CW : Chg (fun b => b = nb ∨ RE.fp x.b.A x.b.c = some b) w (w1.setCell ⟨nb, z * 5 + 4, none⟩ (.slice A' (hs.length + 1) c')) := (CG.more (fun g e => .inl (.inr e))).then (Chg.set _ _ (.inl rfl))
  have NB1 : NB w1 nb ns := h.blk.chg CG (fun e => by have := (hh.2.1.fp_lt e).1; omega)
  have TO : ∀ b, b < w.heap.size → newO O w.heap.size (z, 4) b = O b := fun b hb => newO_old hb
  have DO : ∀ f, f ≠ 4 → ∀ b, (b = nb ∨ RE.fp x.b.A x.b.c = some b) → b < lo ∨ w.heap.size ≤ b ∨ O b ≠ (z, f) := fun f hf b hb => by
    rcases hb with e | e
    · left; omega
    · right; right
      rw [hh.2.2 b e]
      intro q
      injection q with q1 q2
      exact hf q2.symm
  have hz : z < ns.length := (List.getElem?_eq_some_iff.1 hx).1
  have hnew : OwR EH (w1.setCell ⟨nb, z * 5 + 4, none⟩ (.slice A' (hs.length + 1) c')) lo (newO O w.heap.size (z, 4)) (z, 4) ⟨A', hs.length + 1, c'⟩ (hs ++ [hd]) :=
    (hh.put h1 hf).other (Chg.set (D := fun b => b = nb) w1 _ rfl) (fun b e => .inl (by omega))
  have ent : ∀ {g : Hd} {k : List EnV}, OwR EE w lo O (z, 5) g k → OwR EE (w1.setCell ⟨nb, z * 5 + 4, none⟩ (.slice A' (hs.length + 1) c')) lo (newO O w.heap.size (z, 4)) (z, 5) g k := fun r => (r.other CW (DO 5 (by decide))).tell2 r TO
  refine ⟨h.node CW TO (fun b hb => ?_) hz (NB1.s4 hx ⟨A', hs.length + 1, c'⟩) ⟨h0.k, (h0.p.other CW (DO 1 (by decide))).tell2 h0.p TO, (h0.q.other CW (DO 2 (by decide))).tell2 h0.q TO, (h0.m.other CW (DO 3 (by decide))).tell2 h0.m TO, ⟨hs ++ [hd], hnew, ⟨by simp [hB.1], fun i g k hg hk => ?_⟩⟩⟩, CW⟩
  · rcases hb with e | e
    · left; omega
    · right; right; rw [hh.2.2 b e]
  · by_cases q : i < hs.length
    · rw [List.getElem?_append_left q] at hg
      rw [List.getElem?_append_left (by rw [← hB.1]; exact q)] at hk
      exact ent (hB.2 i g k hg hk)
    · have hi : i = hs.length := by
        have := (List.getElem?_eq_some_iff.1 hg).1
        simp at this
        omega
      subst hi
      rw [List.getElem?_append_right (Nat.le_refl _)] at hg
      rw [List.getElem?_append_right (by rw [hB.1]; exact Nat.le_refl _)] at hk
      simp [hB.1] at hg hk
      subst hg hk
      exact ent he
end Go.Proofs.YtdebedeebmmleaaGreatDoor
