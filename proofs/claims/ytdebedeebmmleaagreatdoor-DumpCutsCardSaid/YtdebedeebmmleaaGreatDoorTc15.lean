/- Texts of the proof, one behind the other. -/
import Derived.Test.YtdebedeebmmleaaGreatDoorTc14
import Derived.Test.YtdebedeebmmleaaGreatDoorTc01
set_option linter.unusedVariables false
set_option linter.unusedSimpArgs false
namespace Go.Proofs.YtdebedeebmmleaaGreatDoor
open Go.RowKit Go.Maps
/-- The reader amid a dump: z is the node told last. -/
structure BSt (B lo nb g n z : Nat) (t : ByteArray) (ln : Int) (O : Nat → Nat × Nat) (ns : List NC) (ys : List NdV) (w : World) : Prop where
  rb : RB (.slice (some ⟨nb, 0, none⟩) n n) (.int .i64 (z : Int)) w g t ln
  st : NS w lo nb O ns ys
  gb : GB B w
  lt : B ≤ g ∧ B ≤ nb ∧ g < lo ∧ g ≠ nb ∧ n ≤ 4097 ∧ z ≤ 4097 ∧ ns.length = n
  hi : lo ≤ w.heap.size
  new : ∀ i y, z < i → ys[i]? = some y → y = ⟨0, [], [], [], []⟩
/-- What a line of the body makes. -/
def RBd (B lo nb g n : Nat) (t : ByteArray) (ln : Int) (w : World) (O : Nat → Nat × Nat) (r : Option (Nat × List NdV)) (e : Ending) (w' : World) : Prop :=
  (match r with
  | none => e = .panicked [FP ln 3]
  | some x => e = .returned (.tuple #[]) ∧ ∃ O' ns', BSt B lo nb g n x.1 t ln O' ns' x.2 w' ∧ ∀ b, b < w.heap.size → O' b = O b) ∧ Below B w w'
section
variable {B lo nb g n z : Nat} {t : ByteArray} {ln : Int} {O : Nat → Nat × Nat} {ns : List NC} {ys : List NdV} {w : World}
/-- A node that comes next is new. -/
theorem BSt.fresh (h : BSt B lo nb g n z t ln O ns ys w) {v : Nat} {s : ByteArray} (hv : rgB ((z : Int) + 1) ((n : Int) - 1) s = some (v : Int)) : z < v ∧ v < n ∧ ∃ x, ns[v]? = some x ∧ ys[v]? = some ⟨0, [], [], [], []⟩ := by
  have hq := rg_in hv
  have h1 : z < v := by omega
  have h2 : v < n := by omega
  have hl := h.st.len
  have hn := h.lt.2.2.2.2.2.2
  have hy : v < ys.length := by omega
  exact ⟨h1, h2, ns[v], List.getElem?_eq_getElem (by omega), by rw [List.getElem?_eq_getElem hy, h.new v _ h1 (List.getElem?_eq_getElem hy)]⟩
/-- The next node begins. -/
theorem BSt.begun (h : BSt B lo nb g n z t ln O ns ys w) {v : Nat} {w' : World} (hv : z < v ∧ v < n) (hr : RB (.slice (some ⟨nb, 0, none⟩) n n) (.int .i64 (v : Int)) w' g t ln) (c : Chg (fun x => x = g) w w') : BSt B lo nb g n v t ln O ns ys w' :=
  ⟨hr, h.st.chg c (fun b e => by have := h.lt; exact ⟨by omega, by omega⟩), h.gb.chg c h.lt.1, ⟨h.lt.1, h.lt.2.1, h.lt.2.2.1, h.lt.2.2.2.1, h.lt.2.2.2.2.1, by have := h.lt; omega, h.lt.2.2.2.2.2.2⟩, Nat.le_trans h.hi c.size, fun i y hi hy => h.new i y (by omega) hy⟩
/-- Its kind is told. -/
theorem BSt.kind (h : BSt B lo nb g n z t ln O ns ys w) {x : NC} {y : NdV} (hx : ns[z]? = some x) (hy : ys[z]? = some y) (k : Int) : BSt B lo nb g n z t ln O (ns.set z { x with k := k }) (ys.set z { y with k := k }) (w.setCell ⟨nb, z * 5, none⟩ (.int .u8 k)) ∧ Below B w (w.setCell ⟨nb, z * 5, none⟩ (.int .u8 k)) := by
  have C : Chg (fun b => b = nb) w (w.setCell ⟨nb, z * 5, none⟩ (.int .u8 k)) := Chg.set _ _ rfl
  have hl := h.lt
  have hb := C.below (lo := B) (fun b e => by omega) h.gb.le
  refine ⟨⟨C.keep h.rb (fun e => by omega), h.st.kind hx hy k, h.gb.bel hb, ⟨hl.1, hl.2.1, hl.2.2.1, hl.2.2.2.1, hl.2.2.2.2.1, hl.2.2.2.2.2.1, by simp [hl.2.2.2.2.2.2]⟩, Nat.le_trans h.hi C.size, fun i u hi hu => ?_⟩, hb⟩
  rw [List.getElem?_set_ne (by omega)] at hu
  exact h.new i u hi hu
end
set_option maxHeartbeats 1500000 in
set_option maxRecDepth 100000 in
theorem leaf_len {B lo nb g n z m c : Nat} {t : ByteArray} {ln : Int} {O : Nat → Nat × Nat} {ns : List NC} {ys : List NdV} {w : World} {b : Nat} {ws : List ByteArray} (hS : BSt B lo nb g n z t ln O ns ys w) (hA : ES.Rd w (some ⟨b, 0, none⟩) ws) (hm : ws.length = m) (h0 : ws[0]? = some (⟨#[108, 101, 97, 102]⟩ : ByteArray)) (hl : ¬ m = 2) :
    Calls Tryz.prog 32 #[.pointer (some ⟨g, 0, none⟩), .slice (some ⟨b, 0, none⟩) m c] w (RBd B lo nb g n t ln w O none) := by
  have hmp : 0 < m := by have := (List.getElem?_eq_some_iff.1 h0).1; omega
  have c0 : w.cell? ⟨b, 0, none⟩ = some (.string (⟨#[108, 101, 97, 102]⟩ : ByteArray)) := by
    have h := wd_cell hA (i := 0) (by omega)
    have h2 := wd_at (ws := ws) (i := 0) (by omega)
    rw [h0] at h2
    injection h2 with h2
    rw [← h2] at h
    exact h
  have k0 : (0 : Int) < (m : Int) := by omega
  have HS := Lib.hid hS
  have k2 : ((m : Int) == 2) = false := beq_eq_false_iff_ne.2 (by omega)
  clear hS hA hm h0 hl hmp
  go_enter Tryz.func32, Tryz.ntmps32
  go_wp2_with (first
    | (go_at_call 51; ((with_reducible refine (check_bad g 3 _ HS.out.rb).mono ?_); rintro e w4 ⟨rfl, rfl⟩))
    | fail)
  exact ⟨rfl, rfl, Below.refl _ _⟩
set_option maxHeartbeats 1500000 in
set_option maxRecDepth 100000 in
theorem leaf_bad {B lo nb g n z m c : Nat} {t : ByteArray} {ln : Int} {O : Nat → Nat × Nat} {ns : List NC} {ys : List NdV} {w : World} {b : Nat} {ws : List ByteArray} (hS : BSt B lo nb g n z t ln O ns ys w) (hA : ES.Rd w (some ⟨b, 0, none⟩) ws) (hm : ws.length = m) (h0 : ws[0]? = some (⟨#[108, 101, 97, 102]⟩ : ByteArray)) (hl : m = 2) (hs : (wdA ws 1).size ≤ 4000000) (hv : rgB ((z : Int) + 1) ((n : Int) - 1) (wdA ws 1) = none) :
    Calls Tryz.prog 32 #[.pointer (some ⟨g, 0, none⟩), .slice (some ⟨b, 0, none⟩) m c] w (RBd B lo nb g n t ln w O none) := by
  have hmp : 0 < m := by have := (List.getElem?_eq_some_iff.1 h0).1; omega
  have c0 : w.cell? ⟨b, 0, none⟩ = some (.string (⟨#[108, 101, 97, 102]⟩ : ByteArray)) := by
    have h := wd_cell hA (i := 0) (by omega)
    have h2 := wd_at (ws := ws) (i := 0) (by omega)
    rw [h0] at h2
    injection h2 with h2
    rw [← h2] at h
    exact h
  have k0 : (0 : Int) < (m : Int) := by omega
  have HS := Lib.hid hS
  have hm2 : m = 2 := hl
  have c1 := wd_cell hA (i := 1) (by omega)
  have k1 : (1 : Int) < (m : Int) := by omega
  have k2 : ((m : Int) == 2) = true := by rw [hm2]; rfl
  have BG := Lib.hid (begin_bad hS.rb hS.gb hs hS.lt.2.2.2.2.1 hS.lt.2.2.2.2.2.1 hv)
  clear hS hA hm h0 hl hmp hm2 hs hv
  go_enter Tryz.func32, Tryz.ntmps32
  go_wp2_with (first
    | (go_at_call 51; ((with_reducible refine (check_ok g 3 _).mono ?_); rintro e w4 ⟨rfl, rfl⟩))
    | (go_at_call 53; ((with_reducible refine BG.out.mono ?_); rintro e w5 ⟨rfl, b5⟩; have B5 := Lib.hid (b5.mono HS.out.gb.le); clear b5))
    | fail)
  exact ⟨rfl, rfl, B5.out⟩
set_option maxHeartbeats 1500000 in
set_option maxRecDepth 100000 in
theorem leaf_ok {B lo nb g n z m c : Nat} {t : ByteArray} {ln : Int} {O : Nat → Nat × Nat} {ns : List NC} {ys : List NdV} {w : World} {b : Nat} {ws : List ByteArray} (hS : BSt B lo nb g n z t ln O ns ys w) (hA : ES.Rd w (some ⟨b, 0, none⟩) ws) (hm : ws.length = m) (h0 : ws[0]? = some (⟨#[108, 101, 97, 102]⟩ : ByteArray)) (hl : m = 2) (hs : (wdA ws 1).size ≤ 4000000) {v : Nat} (hv : rgB ((z : Int) + 1) ((n : Int) - 1) (wdA ws 1) = some (v : Int)) :
    Calls Tryz.prog 32 #[.pointer (some ⟨g, 0, none⟩), .slice (some ⟨b, 0, none⟩) m c] w (RBd B lo nb g n t ln w O (some (v, ys.set v ⟨1, [], [], [], []⟩))) := by
  have hmp : 0 < m := by have := (List.getElem?_eq_some_iff.1 h0).1; omega
  have c0 : w.cell? ⟨b, 0, none⟩ = some (.string (⟨#[108, 101, 97, 102]⟩ : ByteArray)) := by
    have h := wd_cell hA (i := 0) (by omega)
    have h2 := wd_at (ws := ws) (i := 0) (by omega)
    rw [h0] at h2
    injection h2 with h2
    rw [← h2] at h
    exact h
  have k0 : (0 : Int) < (m : Int) := by omega
  have HS := Lib.hid hS
  have hm2 : m = 2 := hl
  have c1 := wd_cell hA (i := 1) (by omega)
  have k1 : (1 : Int) < (m : Int) := by omega
  have k2 : ((m : Int) == 2) = true := by rw [hm2]; rfl
  have BG := Lib.hid (begin_ok hS.rb hS.gb hS.lt.1 hs hS.lt.2.2.2.2.1 hS.lt.2.2.2.2.2.1 hv)
  obtain ⟨hz1, hz2, x, hx, hy⟩ := hS.fresh hv
  have HZ := Lib.hid (And.intro hz1 hz2)
  have HX := Lib.hid hx
  have HY := Lib.hid hy
  clear hS hA hm h0 hl hmp hm2 hs hv hz1 hz2 hx hy
  go_enter Tryz.func32, Tryz.ntmps32
  go_upto_region 5 with (first
    | (go_at_call 51; ((with_reducible refine (check_ok g 3 _).mono ?_); rintro e w4 ⟨rfl, rfl⟩))
    | fail)
  go_wp2_with (first
    | (go_at_call 53; ((with_reducible refine BG.out.mono ?_); rintro e w5 ⟨rfl, r5, b5⟩; have S5 := Lib.hid (HS.out.begun HZ.out r5 b5); have B5 := Lib.hid (b5.below (lo := B) (fun q e => by have := HS.out.lt; omega) HS.out.gb.le); clear r5 b5; have c5 := S5.out.st.blk.c0 HX.out; have f5 := S5.out.st.blk.fr (v * 5)))
    | fail)
  have K5 := S5.out.kind HX.out HY.out 1
  go_end0
  exact ⟨⟨rfl, O, _, K5.1, fun _ _ => rfl⟩, B5.out.trans K5.2⟩
end Go.Proofs.YtdebedeebmmleaaGreatDoor
namespace Go.Proofs.YtdebedeebmmleaaGreatDoor
open Go.RowKit Go.Maps
section
variable {B lo nb g n z : Nat} {t : ByteArray} {ln : Int} {O : Nat → Nat × Nat} {ns : List NC} {ys : List NdV} {w : World}
theorem BSt.later {W : World} (h : BSt B lo nb g n z t ln O ns ys w) (b : Below w.heap.size w W) : BSt B lo nb g n z t ln O ns ys W :=
  ⟨h.rb.later b, h.st.later b, h.gb.later b, h.lt, Nat.le_trans h.hi b.size, h.new⟩
/-- One node says something else. -/
theorem BSt.node {W : World} {O' : Nat → Nat × Nat} {x' : NC} {y' : NdV} (h : BSt B lo nb g n z t ln O ns ys w) (hr : RB (.slice (some ⟨nb, 0, none⟩) n n) (.int .i64 (z : Int)) W g t ln) (hn : NS W lo nb O' (ns.set z x') (ys.set z y')) (b : Below B w W) : BSt B lo nb g n z t ln O' (ns.set z x') (ys.set z y') W := by
  have hl := h.lt
  refine ⟨hr, hn, h.gb.bel b, ⟨hl.1, hl.2.1, hl.2.2.1, hl.2.2.2.1, hl.2.2.2.2.1, hl.2.2.2.2.2.1, by simp [hl.2.2.2.2.2.2]⟩, Nat.le_trans h.hi b.size, fun i u hi hu => ?_⟩
  rw [List.getElem?_set_ne (by omega)] at hu
  exact h.new i u hi hu
end
set_option maxHeartbeats 1500000 in
set_option maxRecDepth 100000 in
theorem inner_short {B lo nb g n z m : Nat} {t : ByteArray} {ln : Int} {O : Nat → Nat × Nat} {ns : List NC} {ys : List NdV} {w : World} {b : Nat} {ws : List ByteArray} (hS : BSt B lo nb g n z t ln O ns ys w) (hA : ES.Rd w (some ⟨b, 0, none⟩) ws) (hm : ws.length = m) (h0 : ws[0]? = some (⟨#[105, 110, 110, 101, 114]⟩ : ByteArray)) (hl : m < 3) :
    Calls Tryz.prog 32 #[.pointer (some ⟨g, 0, none⟩), .slice (some ⟨b, 0, none⟩) m m] w (RBd B lo nb g n t ln w O none) := by
  have hmp : 0 < m := by have := (List.getElem?_eq_some_iff.1 h0).1; omega
  have c0 : w.cell? ⟨b, 0, none⟩ = some (.string (⟨#[105, 110, 110, 101, 114]⟩ : ByteArray)) := by
    have h := wd_cell hA (i := 0) (by omega)
    have h2 := wd_at (ws := ws) (i := 0) (by omega)
    rw [h0] at h2
    injection h2 with h2
    rw [← h2] at h
    exact h
  have k0 : (0 : Int) < (m : Int) := by omega
  have HS := Lib.hid hS
  have k2 : ¬ (3 : Int) ≤ (m : Int) := by omega
  have k3 : (m : Int) < 3 := by omega
  clear hS hA hm h0 hl hmp
  go_enter Tryz.func32, Tryz.ntmps32
  go_wp2_with (first
    | (go_at_call 51; ((with_reducible refine (check_bad g 3 _ HS.out.rb).mono ?_); rintro e w4 ⟨rfl, rfl⟩))
    | fail)
  exact ⟨rfl, rfl, Below.refl _ _⟩
set_option maxHeartbeats 1500000 in
set_option maxRecDepth 100000 in
theorem inner_even {B lo nb g n z m : Nat} {t : ByteArray} {ln : Int} {O : Nat → Nat × Nat} {ns : List NC} {ys : List NdV} {w : World} {b : Nat} {ws : List ByteArray} (hS : BSt B lo nb g n z t ln O ns ys w) (hA : ES.Rd w (some ⟨b, 0, none⟩) ws) (hm : ws.length = m) (h0 : ws[0]? = some (⟨#[105, 110, 110, 101, 114]⟩ : ByteArray)) (hl : 3 ≤ m) (hl2 : m % 2 = 0) :
    Calls Tryz.prog 32 #[.pointer (some ⟨g, 0, none⟩), .slice (some ⟨b, 0, none⟩) m m] w (RBd B lo nb g n t ln w O none) := by
  have hmp : 0 < m := by have := (List.getElem?_eq_some_iff.1 h0).1; omega
  have c0 : w.cell? ⟨b, 0, none⟩ = some (.string (⟨#[105, 110, 110, 101, 114]⟩ : ByteArray)) := by
    have h := wd_cell hA (i := 0) (by omega)
    have h2 := wd_at (ws := ws) (i := 0) (by omega)
    rw [h0] at h2
    injection h2 with h2
    rw [← h2] at h
    exact h
  have k0 : (0 : Int) < (m : Int) := by omega
  have HS := Lib.hid hS
  have k2 : (3 : Int) ≤ (m : Int) := by omega
  have e1 : (m : Int).tmod 2 = 0 := by rw [Int.tmod_eq_emod_of_nonneg (by omega)]; omega
  have e3 : (m : Int) % 2 = 0 := by omega
  clear hS hA hm h0 hl hl2 hmp
  go_enter Tryz.func32, Tryz.ntmps32
  go_wp2_with (first
    | (go_at_call 51; ((with_reducible refine (check_bad g 3 _ HS.out.rb).mono ?_); rintro e w4 ⟨rfl, rfl⟩))
    | fail)
  exact ⟨rfl, rfl, Below.refl _ _⟩
set_option maxHeartbeats 1500000 in
set_option maxRecDepth 100000 in
theorem inner_bad {B lo nb g n z m : Nat} {t : ByteArray} {ln : Int} {O : Nat → Nat × Nat} {ns : List NC} {ys : List NdV} {w : World} {b : Nat} {ws : List ByteArray} (hS : BSt B lo nb g n z t ln O ns ys w) (hA : ES.Rd w (some ⟨b, 0, none⟩) ws) (hm : ws.length = m) (h0 : ws[0]? = some (⟨#[105, 110, 110, 101, 114]⟩ : ByteArray)) (hl : 3 ≤ m) (hl2 : m % 2 = 1) (hs : ∀ i, (wdA ws i).size ≤ 1000000) (hv : rgB ((z : Int) + 1) ((n : Int) - 1) (wdA ws 1) = none) :
    Calls Tryz.prog 32 #[.pointer (some ⟨g, 0, none⟩), .slice (some ⟨b, 0, none⟩) m m] w (RBd B lo nb g n t ln w O none) := by
  have hmp : 0 < m := by have := (List.getElem?_eq_some_iff.1 h0).1; omega
  have c0 : w.cell? ⟨b, 0, none⟩ = some (.string (⟨#[105, 110, 110, 101, 114]⟩ : ByteArray)) := by
    have h := wd_cell hA (i := 0) (by omega)
    have h2 := wd_at (ws := ws) (i := 0) (by omega)
    rw [h0] at h2
    injection h2 with h2
    rw [← h2] at h
    exact h
  have k0 : (0 : Int) < (m : Int) := by omega
  have HS := Lib.hid hS
  have k2 : (3 : Int) ≤ (m : Int) := by omega
  have k1 : (1 : Int) < (m : Int) := by omega
  have e1 : (m : Int).tmod 2 = 1 := by rw [Int.tmod_eq_emod_of_nonneg (by omega)]; omega
  have e3 : (m : Int) % 2 = 1 := by omega
  have km2 : (2 : Int) ≤ (m : Int) := by omega
  have km3 : ¬ m = 2 := by omega
  have C1 := Lib.hid (wd_cell hA (i := 1) (by omega))
  have hs1 := hs 1
  have BG := Lib.hid (fun V (h : BSt B lo nb g n z t ln O ns ys V) => begin_bad (s := wdA ws 1) h.rb h.gb (by omega) h.lt.2.2.2.2.1 h.lt.2.2.2.2.2.1 hv)
  clear hS hA hm h0 hl hl2 hmp hs hv hs1
  generalize wdA ws 1 = x1 at *
  go_enter Tryz.func32, Tryz.ntmps32
  go_upto_region 8 with (first
    | (go_at_call 51; ((with_reducible refine (check_ok g 3 _).mono ?_); rintro e w4 ⟨rfl, rfl⟩))
    | fail)
  refine wp_region_held_drew (S := fun _ : World => True) (by kernel_rfl) trivial (fun hHeld => ?_)
  clear hHeld
  refine wT (i := 0) (oi := { dst := some 50, op := Op.move (Operand.tmp 0), type := 64, pos := "parse.go:94", after := #[], guard := none }) (v := ?_) rfl (Or.inl ⟨by rfl, ?_⟩) trivial ?_
  rotate_left
  · intro w hSw; clear hSw; go_simp; try with_reducible rfl
  try simp only [pu, pn, s1, s2, s3]
  refine wT (i := 1) (oi := { dst := some 51, op := Op.move (Operand.tmp 0), type := 64, pos := "parse.go:94", after := #[], guard := none }) (v := ?_) rfl (Or.inl ⟨by rfl, ?_⟩) trivial ?_
  rotate_left
  · intro w hSw; clear hSw; go_simp; try with_reducible rfl
  try simp only [pu, pn, s1, s2, s3]
  refine wT (i := 2) (oi := { dst := some 52, op := Op.move (Operand.tmp 1), type := 39, pos := "parse.go:94", after := #[], guard := none }) (v := ?_) rfl (Or.inl ⟨by rfl, ?_⟩) trivial ?_
  rotate_left
  · intro w hSw; clear hSw; go_simp; try with_reducible rfl
  try simp only [pu, pn, s1, s2, s3]
  refine wT (i := 3) (oi := { dst := some 53, op := Op.indexAddr 39 (Operand.tmp 52) (Operand.const (Value.int IntKind.i64 1)), type := 0, pos := "parse.go:94", after := #[{ on := 2, ground := Ground.data }], guard := none }) (v := ?_) rfl (Or.inl ⟨by rfl, ?_⟩) trivial ?_
  rotate_left
  · intro w hSw; clear hSw; go_simp; try with_reducible rfl
  try simp only [pu, pn, s1, s2, s3]
  refine wT (i := 6) (oi := { dst := some 56, op := Op.move (Operand.tmp 1), type := 39, pos := "parse.go:94", after := #[], guard := none }) (v := ?_) rfl (Or.inl ⟨by rfl, ?_⟩) trivial ?_
  rotate_left
  · intro w hSw; clear hSw; go_simp; try with_reducible rfl
  try simp only [pu, pn, s1, s2, s3]
  refine wT (i := 7) (oi := { dst := some 57, op := Op.slice 39 (Operand.tmp 56) (some (Operand.const (Value.int IntKind.i64 2))) none none, type := 39, pos := "parse.go:94", after := #[{ on := 6, ground := Ground.data }], guard := none }) (v := ?_) rfl (Or.inl ⟨by rfl, ?_⟩) trivial ?_
  rotate_left
  · intro w hSw; clear hSw; go_simp; try with_reducible rfl
  try simp only [pu, pn, s1, s2, s3]
  refine wpAnyH_ready (rs := [4]) (by kernel_rfl) (by simp) ?_
  refine (AllReadyH.cons (o := { dst := some 54, op := Op.load 9 (Operand.tmp 53), type := 9, pos := "parse.go:94", after := #[{ on := 3, ground := Ground.data }], guard := none }) rfl (fun K hK => ?_) AllReadyH.nil)
  have c1 := C1.out
  go_simp
  clear c1
  refine hK.out _ _ trivial (fun hHeld => ?_)
  clear hHeld hK K
  try simp only [pu, pn, s1, s2, s3]
  refine wpAnyH_ready (rs := [5]) (by kernel_rfl) (by simp) ?_
  refine (AllReadyH.cons (o := { dst := some 55, op := Op.call { callee := Callee.value (Operand.func 53), args := #[Operand.tmp 51, Operand.tmp 54], argTypes := #[64, 9] }, type := 95, pos := "parse.go:94", after := #[{ on := 1, ground := Ground.data }, { on := 4, ground := Ground.data }], guard := none }) rfl (fun K hK => ?_) AllReadyH.nil)
  go_simp
  (go_at_call 53; ((with_reducible refine (BG.out _ (HS.out.later (Below.refl _ w).drew)).mono ?_); rintro e w5 ⟨rfl, b5⟩; have B5 := Lib.hid ((bel_dr b5).mono HS.out.gb.le); clear b5))
  exact ⟨rfl, rfl, B5.out⟩
set_option maxHeartbeats 1500000 in
set_option maxRecDepth 100000 in
theorem inner_any {B lo nb g n z m : Nat} {t : ByteArray} {ln : Int} {O : Nat → Nat × Nat} {ns : List NC} {ys : List NdV} {w : World} {b : Nat} {ws : List ByteArray} (hS : BSt B lo nb g n z t ln O ns ys w) (hA : ES.Rd w (some ⟨b, 0, none⟩) ws) (hm : ws.length = m) (h0 : ws[0]? = some (⟨#[105, 110, 110, 101, 114]⟩ : ByteArray)) (hl : 3 ≤ m) (hl2 : m % 2 = 1) (hm9 : m ≤ 900000) (hs : ∀ i, (wdA ws i).size ≤ 1000000) (hs2 : ∀ x ∈ ws, x.size ≤ 1000000) (hO : b ≠ nb ∧ b ≠ g ∧ b < w.heap.size ∧ (O b).2 = 0) {v : Nat} (hv : rgB ((z : Int) + 1) ((n : Int) - 1) (wdA ws 1) = some (v : Int)) :
    Calls Tryz.prog 32 #[.pointer (some ⟨g, 0, none⟩), .slice (some ⟨b, 0, none⟩) m m] w (RBd B lo nb g n t ln w O ((inB true (ws.drop 2)).map fun x => (v, ys.set v ⟨2, x.1, x.2, [], []⟩))) := by
  have hmp : 0 < m := by have := (List.getElem?_eq_some_iff.1 h0).1; omega
  have c0 : w.cell? ⟨b, 0, none⟩ = some (.string (⟨#[105, 110, 110, 101, 114]⟩ : ByteArray)) := by
    have h := wd_cell hA (i := 0) (by omega)
    have h2 := wd_at (ws := ws) (i := 0) (by omega)
    rw [h0] at h2
    injection h2 with h2
    rw [← h2] at h
    exact h
  have k0 : (0 : Int) < (m : Int) := by omega
  have HS := Lib.hid hS
  have k2 : (3 : Int) ≤ (m : Int) := by omega
  have k1 : (1 : Int) < (m : Int) := by omega
  have e1 : (m : Int).tmod 2 = 1 := by rw [Int.tmod_eq_emod_of_nonneg (by omega)]; omega
  have e3 : (m : Int) % 2 = 1 := by omega
  have km2 : (2 : Int) ≤ (m : Int) := by omega
  have km3 : ¬ m = 2 := by omega
  have C1 := Lib.hid (wd_cell hA (i := 1) (by omega))
  have hs1 := hs 1
  have BG := Lib.hid (fun V (h : BSt B lo nb g n z t ln O ns ys V) => begin_ok (s := wdA ws 1) h.rb h.gb h.lt.1 (by omega) h.lt.2.2.2.2.1 h.lt.2.2.2.2.2.1 hv)
  obtain ⟨hz1, hz2, x, hx, hy⟩ := hS.fresh hv
  have HZ := Lib.hid (And.intro hz1 hz2)
  have hA2 : ES.Rd w (some ⟨b, 2, none⟩) (ws.drop 2) := by
    have q := RE.Rd.drop hA 2
    exact q
  have HIN := Lib.hid (fun V (h : BSt B lo nb g n v t ln O ns ys V) (c : Chg (fun q => q = g) w V) => rinner_any (n := m - 2) (c := m - 2) (some ⟨b, 2, none⟩) (ws.drop 2) h.st hx hy ⟨rfl, rfl⟩ h.rb h.gb ⟨h.lt.2.1, by have := h.lt; omega, h.lt.2.2.1, h.lt.2.2.2.1⟩ h.hi (by simp [hm]) (by omega) (hA2.chg c (fun a ha e => by cases ha; exact hO.2.1 e)) (fun a ha => by cases ha; exact ⟨hO.1, Nat.lt_of_lt_of_le hO.2.2.1 c.size, hO.2.2.2⟩) (fun y hy => hs2 y (List.mem_of_mem_drop hy)))
  clear hS hA hm h0 hl hl2 hmp hs hs2 hv hs1 hA2 hx hy hz1 hz2 hm9 hO
  generalize wdA ws 1 = x1 at *
  go_enter Tryz.func32, Tryz.ntmps32
  go_upto_region 8 with (first
    | (go_at_call 51; ((with_reducible refine (check_ok g 3 _).mono ?_); rintro e w4 ⟨rfl, rfl⟩))
    | fail)
  refine wp_region_held_drew (S := fun _ : World => True) (by kernel_rfl) trivial (fun hHeld => ?_)
  clear hHeld
  refine wT (i := 0) (oi := { dst := some 50, op := Op.move (Operand.tmp 0), type := 64, pos := "parse.go:94", after := #[], guard := none }) (v := ?_) rfl (Or.inl ⟨by rfl, ?_⟩) trivial ?_
  rotate_left
  · intro w hSw; clear hSw; go_simp; try with_reducible rfl
  try simp only [pu, pn, s1, s2, s3]
  refine wT (i := 1) (oi := { dst := some 51, op := Op.move (Operand.tmp 0), type := 64, pos := "parse.go:94", after := #[], guard := none }) (v := ?_) rfl (Or.inl ⟨by rfl, ?_⟩) trivial ?_
  rotate_left
  · intro w hSw; clear hSw; go_simp; try with_reducible rfl
  try simp only [pu, pn, s1, s2, s3]
  refine wT (i := 2) (oi := { dst := some 52, op := Op.move (Operand.tmp 1), type := 39, pos := "parse.go:94", after := #[], guard := none }) (v := ?_) rfl (Or.inl ⟨by rfl, ?_⟩) trivial ?_
  rotate_left
  · intro w hSw; clear hSw; go_simp; try with_reducible rfl
  try simp only [pu, pn, s1, s2, s3]
  refine wT (i := 3) (oi := { dst := some 53, op := Op.indexAddr 39 (Operand.tmp 52) (Operand.const (Value.int IntKind.i64 1)), type := 0, pos := "parse.go:94", after := #[{ on := 2, ground := Ground.data }], guard := none }) (v := ?_) rfl (Or.inl ⟨by rfl, ?_⟩) trivial ?_
  rotate_left
  · intro w hSw; clear hSw; go_simp; try with_reducible rfl
  try simp only [pu, pn, s1, s2, s3]
  refine wT (i := 6) (oi := { dst := some 56, op := Op.move (Operand.tmp 1), type := 39, pos := "parse.go:94", after := #[], guard := none }) (v := ?_) rfl (Or.inl ⟨by rfl, ?_⟩) trivial ?_
  rotate_left
  · intro w hSw; clear hSw; go_simp; try with_reducible rfl
  try simp only [pu, pn, s1, s2, s3]
  refine wT (i := 7) (oi := { dst := some 57, op := Op.slice 39 (Operand.tmp 56) (some (Operand.const (Value.int IntKind.i64 2))) none none, type := 39, pos := "parse.go:94", after := #[{ on := 6, ground := Ground.data }], guard := none }) (v := ?_) rfl (Or.inl ⟨by rfl, ?_⟩) trivial ?_
  rotate_left
  · intro w hSw; clear hSw; go_simp; try with_reducible rfl
  try simp only [pu, pn, s1, s2, s3]
  refine wpAnyH_ready (rs := [4]) (by kernel_rfl) (by simp) ?_
  refine (AllReadyH.cons (o := { dst := some 54, op := Op.load 9 (Operand.tmp 53), type := 9, pos := "parse.go:94", after := #[{ on := 3, ground := Ground.data }], guard := none }) rfl (fun K hK => ?_) AllReadyH.nil)
  have c1 := C1.out
  go_simp
  clear c1
  refine hK.out _ _ trivial (fun hHeld => ?_)
  clear hHeld hK K
  try simp only [pu, pn, s1, s2, s3]
  refine wpAnyH_ready (rs := [5]) (by kernel_rfl) (by simp) ?_
  refine (AllReadyH.cons (o := { dst := some 55, op := Op.call { callee := Callee.value (Operand.func 53), args := #[Operand.tmp 51, Operand.tmp 54], argTypes := #[64, 9] }, type := 95, pos := "parse.go:94", after := #[{ on := 1, ground := Ground.data }, { on := 4, ground := Ground.data }], guard := none }) rfl (fun K hK => ?_) AllReadyH.nil)
  go_simp
  (go_at_call 53; ((with_reducible refine (BG.out _ (HS.out.later (Below.refl _ w).drew)).mono ?_); rintro e w5 ⟨rfl, r5, b5⟩; have C5 := Lib.hid (show Chg (fun q => q = g) w w5 from (Chg.refl _ w).drew.then b5); have S5 := Lib.hid (HS.out.begun HZ.out r5 C5.out); clear r5 b5))
  refine hK.out _ _ trivial (fun hHeld => ?_)
  clear hHeld hK K
  try simp only [pu, pn, s1, s2, s3]
  refine wpAnyH_ready (rs := [8]) (by kernel_rfl) (by simp) ?_
  refine (AllReadyH.cons (o := { dst := some 58, op := Op.call { callee := Callee.value (Operand.func 54), args := #[Operand.tmp 50, Operand.tmp 55, Operand.tmp 57], argTypes := #[64, 95, 39] }, type := 0, pos := "parse.go:94", after := #[{ on := 0, ground := Ground.data }, { on := 5, ground := Ground.data }, { on := 7, ground := Ground.data }, { on := 5, ground := Ground.chain }], guard := none }) rfl (fun K hK => ?_) AllReadyH.nil)
  go_simp
  (go_at_call 54; ((with_reducible refine (HIN.out _ S5.out C5.out).mono ?_); rintro e w6 ⟨h6, b6⟩))
  cases hq : inB true (ws.drop 2) with
  | none =>
    rw [hq] at h6
    rw [show e = .panicked [FP ln 3] from h6]
    refine ⟨rfl, ?_⟩
    rw [hq]
    exact ⟨rfl, ((C5.out.below (lo := B) (fun q e => by have := HS.out.lt; omega) HS.out.gb.le)).trans b6⟩
  | some y =>
    rw [hq] at h6
    obtain ⟨h7, r6, O6, x6, n6, o6⟩ := h6
    rw [h7]
    have S6 := S5.out.node r6 n6 b6
    have B6 := (C5.out.below (lo := B) (fun q e => by have := HS.out.lt; omega) HS.out.gb.le).trans b6
    have o7 : ∀ q, q < w.heap.size → O6 q = O q := fun q hq => o6 q (Nat.lt_of_lt_of_le hq C5.out.size)
    clear h7 r6 n6 o6 b6
    simp only [Act.put]
    refine hK.out _ _ trivial (fun hHeld => ?_)
    clear hHeld hK K
    try simp only [pu, pn, s1, s2, s3]
    refine wpAnyH_done (by kernel_rfl) ?_ _
    go_wp2
    go_end0
    exact ⟨⟨rfl, O6, _, S6, o7⟩, B6⟩
end Go.Proofs.YtdebedeebmmleaaGreatDoor
