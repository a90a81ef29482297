/- Texts of the proof, one behind the other. -/
import Derived.Test.YtdebedeebmmleaaGreatDoorRows
import Derived.Test.YtdebedeebmmleaaGreatDoorTp01
import Derived.Lib.ItoaMem
import Derived.Lib.AppendIntMem
import Derived.Deep.Cut
import Derived.Deep.DeepCutAuto
set_option linter.unusedVariables false
set_option linter.unusedSimpArgs false
namespace Go.Proofs.YtdebedeebmmleaaGreatDoor
open Go.RowKit

abbrev cfg (k v f b l bl n bu ch : Int) : Value := .agg #[.int .i64 k, .int .i64 v, .int .i64 f, .int .i64 b, .int .i64 l, .int .i64 bl, .int .i64 n, .int .i64 bu, .int .i64 ch]
def emp (a : ByteArray) : Bool := a.toList.isEmpty
def ltS (a b : ByteArray) : Bool := Op.bytesLess a.toList b.toList
def sbS (f t : ByteArray) : Bool := emp t || ltS f t
def rightS (s : ByteArray) (n : Int) : Bool := !emp s && decide ((s.size : Int) ≤ n)

theorem right_any (s : ByteArray) (n : Int) (w : World) :
    Calls Tryz.prog 99 #[.string s, .int .i64 n] w fun e w' => e = .returned (.bool (rightS s n)) ∧ w = w' := by
  go_enter Tryz.func99, Tryz.ntmps99
  go_wp2
  all_goals
    go_ret
    refine ⟨?_, rfl⟩
    simp_all [rightS, emp]
theorem sb_any (a b : ByteArray) (w : World) :
    Calls Tryz.prog 123 #[.string a, .string b] w fun e w' => e = .returned (.bool (sbS a b)) ∧ w = w' := by
  go_enter Tryz.func123, Tryz.ntmps123
  go_wp2
  all_goals
    go_ret
    refine ⟨?_, rfl⟩
    simp_all [sbS, emp, ltS]
theorem rightRange_any (a b : ByteArray) (w : World) :
    Calls Tryz.prog 100 #[.agg #[.string a, .string b]] w fun e w' => e = .returned (.bool (sbS a b)) ∧ Below w.heap.size w w' := by
  go_enter Tryz.func100, Tryz.ntmps100
  go_wp2_with (go_at_call 123; refine (sb_any _ _ _).mono ?_; rintro e w' ⟨rfl, rfl⟩)
  all_goals
    go_ret
    exact ⟨rfl, by go_grown⟩

/-- A message. -/
structure M where
  k : Int
  q : Int
  key : ByteArray
  too : ByteArray
  val : ByteArray
  dl : Int
def M.v (m : M) : Value := .agg #[.int .u8 m.k, .int .i64 m.q, .string m.key, .string m.too, .string m.val, .int .u64 m.dl]

theorem mpure_1 (q dl : Int) (key too val : ByteArray) (w : World)  :
    Calls Tryz.prog 98 #[.agg #[.int .u8 1, .int .i64 q, .string key, .string too, .string val, .int .u64 dl]] w fun e w' => e = .returned (.agg #[.int .u8 1, .int .i64 q, .string key, .string ⟨#[]⟩, .string val, .int .u64 0]) ∧ Below w.heap.size w w' := by
  go_enter Tryz.func98, Tryz.ntmps98
  go_wp2
  refine bodyPost_ret (v := .agg #[.int .u8 1, .int .i64 q, .string key, .string ⟨#[]⟩, .string val, .int .u64 0]) (by simp [results, Tryz.results98, go_sem]) rfl ⟨rfl, by go_grown⟩
theorem mpure_3 (q dl : Int) (key too val : ByteArray) (w : World)  :
    Calls Tryz.prog 98 #[.agg #[.int .u8 3, .int .i64 q, .string key, .string too, .string val, .int .u64 dl]] w fun e w' => e = .returned (.agg #[.int .u8 3, .int .i64 q, .string key, .string ⟨#[]⟩, .string ⟨#[]⟩, .int .u64 dl]) ∧ Below w.heap.size w w' := by
  go_enter Tryz.func98, Tryz.ntmps98
  go_wp2
  refine bodyPost_ret (v := .agg #[.int .u8 3, .int .i64 q, .string key, .string ⟨#[]⟩, .string ⟨#[]⟩, .int .u64 dl]) (by simp [results, Tryz.results98, go_sem]) rfl ⟨rfl, by go_grown⟩
theorem mpure_4 (q dl : Int) (key too val : ByteArray) (w : World)  :
    Calls Tryz.prog 98 #[.agg #[.int .u8 4, .int .i64 q, .string key, .string too, .string val, .int .u64 dl]] w fun e w' => e = .returned (.agg #[.int .u8 4, .int .i64 q, .string key, .string too, .string ⟨#[]⟩, .int .u64 0]) ∧ Below w.heap.size w w' := by
  go_enter Tryz.func98, Tryz.ntmps98
  go_wp2
  refine bodyPost_ret (v := .agg #[.int .u8 4, .int .i64 q, .string key, .string too, .string ⟨#[]⟩, .int .u64 0]) (by simp [results, Tryz.results98, go_sem]) rfl ⟨rfl, by go_grown⟩
theorem mpure_o (k q dl : Int) (key too val : ByteArray) (w : World) (h1 : k ≠ 1) (h3 : k ≠ 3) (h4 : k ≠ 4) :
    Calls Tryz.prog 98 #[.agg #[.int .u8 k, .int .i64 q, .string key, .string too, .string val, .int .u64 dl]] w fun e w' => e = .returned (.agg #[.int .u8 k, .int .i64 q, .string key, .string ⟨#[]⟩, .string ⟨#[]⟩, .int .u64 0]) ∧ Below w.heap.size w w' := by
  go_enter Tryz.func98, Tryz.ntmps98
  go_wp2
  refine bodyPost_ret (v := .agg #[.int .u8 k, .int .i64 q, .string key, .string ⟨#[]⟩, .string ⟨#[]⟩, .int .u64 0]) (by simp [results, Tryz.results98, go_sem]) rfl ⟨rfl, by go_grown⟩

theorem span_4 (q dl : Int) (key too val : ByteArray) (w : World) :
    Calls Tryz.prog 101 #[.agg #[.int .u8 4, .int .i64 q, .string key, .string too, .string val, .int .u64 dl]] w fun e w' => e = .returned (.agg #[.string key, .string too]) ∧ Below w.heap.size w w' := by
  have C : ∀ W, Calls Tryz.prog 124 #[.agg #[.int .u8 4, .int .i64 q, .string key, .string too, .string val, .int .u64 dl]] W fun e w' => e = .returned (.bool false) ∧ Below W.heap.size W w' := by
    intro W
    go_enter Tryz.func124, Tryz.ntmps124
    go_wp2
    go_ret
    exact ⟨rfl, by go_grown⟩
  have CC := Lib.hid C
  go_enter Tryz.func101, Tryz.ntmps101
  go_wp2_with fail
  refine (CC.out _).mono ?_
  rintro e w1 ⟨rfl, hb⟩
  have d0 : w1.cell? ⟨w.heap.size, 0, none⟩ = some (.int .u8 4) := bel_later hb (by simp [go_sem])
  have d2 : w1.cell? ⟨w.heap.size, 2, none⟩ = some (.string key) := bel_later hb (by simp [go_sem])
  have d3 : w1.cell? ⟨w.heap.size, 3, none⟩ = some (.string too) := bel_later hb (by simp [go_sem])
  have hb1 : Below w.heap.size w w1 := Below.trans (by go_grown) (hb.mono (by simp; try omega))
  have x0 : w1.cell? ⟨w.heap.size + 1, 0, none⟩ = some (.string ⟨#[]⟩) := bel_later hb (by simp [go_sem])
  have x1 : w1.cell? ⟨w.heap.size + 1, 1, none⟩ = some (.string ⟨#[]⟩) := bel_later hb (by simp [go_sem])
  have y0 : w1.frozen? ⟨w.heap.size + 1, 0, none⟩ = false := (hb.frozen (by simp)).trans (by simp [go_sem])
  have y1 : w1.frozen? ⟨w.heap.size + 1, 1, none⟩ = false := (hb.frozen (by simp)).trans (by simp [go_sem])
  go_wp2
  refine bodyPost_ret (v := .agg #[.string key, .string too]) (by simp [results, Tryz.results101, go_sem, x0, x1, y0, y1]) rfl ⟨rfl, (hb1.setCell (p := ⟨w.heap.size + 1, 0, none⟩) (by simp) _).setCell (p := ⟨w.heap.size + 1, 1, none⟩) (by simp) _⟩
end Go.Proofs.YtdebedeebmmleaaGreatDoor
namespace Go.Proofs.YtdebedeebmmleaaGreatDoor
open Go.RowKit Go.Maps
theorem alb (w : World) (o : Obj) : Below w.heap.size w (w.alloc o) := (Below.refl _ w).alloc (Nat.le_refl _) o
theorem keep_bel {w w' : World} (hb : Below w.heap.size w w') {b : Nat} {o : Obj} (h : w.heap[b]? = some o) : w'.heap[b]? = some o := by
  have hlt : b < w.heap.size := by
    rcases Nat.lt_or_ge b w.heap.size with h' | h'
    · exact h'
    · simp [Array.getElem?_eq_none h'] at h
  exact (hb.block b hlt).trans h
/-- What changes, and what stays. -/
structure Chg (D : Nat → Prop) (w w' : World) : Prop where
  os : w'.os = w.os
  tape : w'.tape = w.tape
  output : w'.output = w.output
  size : w.heap.size ≤ w'.heap.size
  block : ∀ g, g < w.heap.size → ¬ D g → w'.heap[g]? = w.heap[g]?
theorem Chg.refl (D : Nat → Prop) (w : World) : Chg D w w := ⟨rfl, rfl, rfl, Nat.le_refl _, fun _ _ _ => rfl⟩
theorem Chg.of_below {D : Nat → Prop} {w w' : World} (h : Below w.heap.size w w') : Chg D w w' := ⟨h.os, h.tape, h.output, h.size, fun g hg _ => h.block g hg⟩
theorem Chg.trans {F G : Nat → Prop} {w w1 w2 : World} (h : Chg F w w1) (k : Chg G w1 w2) (hG : ∀ g, G g → F g ∨ w.heap.size ≤ g) : Chg F w w2 :=
  ⟨k.os.trans h.os, k.tape.trans h.tape, k.output.trans h.output, Nat.le_trans h.size k.size, fun g hg hn => (k.block g (Nat.lt_of_lt_of_le hg h.size) (fun e => by rcases hG g e with x | x; exact hn x; omega)).trans (h.block g hg hn)⟩
theorem Chg.then {F : Nat → Prop} {w w1 w2 : World} (h : Chg F w w1) (k : Chg F w1 w2) : Chg F w w2 := h.trans k (fun _ e => .inl e)
theorem Chg.later {F : Nat → Prop} {w w1 w2 : World} (h : Chg F w w1) (k : Below w1.heap.size w1 w2) : Chg F w w2 := h.trans (Chg.of_below (D := fun _ => False) k) (fun _ e => e.elim)
theorem Chg.more {F G : Nat → Prop} {w w' : World} (h : Chg F w w') (hG : ∀ g, F g → G g ∨ w.heap.size ≤ g) : Chg G w w' := ⟨h.os, h.tape, h.output, h.size, fun g hg hn => h.block g hg (fun e => by rcases hG g e with x | x; exact hn x; omega)⟩
theorem Chg.below {F : Nat → Prop} {w w' : World} {lo : Nat} (h : Chg F w w') (hF : ∀ g, F g → lo ≤ g) (hlo : lo ≤ w.heap.size) : Below lo w w' :=
  ⟨h.os, h.tape, h.output, h.size, fun g hg => h.block g (by omega) (fun e => by have := hF g e; omega)⟩
theorem Chg.set {D : Nat → Prop} (w : World) {l o : Nat} (v : Value) (hl : D l) : Chg D w (w.setCell ⟨l, o, none⟩ v) :=
  ⟨rfl, rfl, rfl, by simp, fun g hg hn => by
    have : l ≠ g := fun e => hn (e ▸ hl)
    simp [World.setCell, Array.getElem?_modify, this]⟩
theorem Chg.drew {D : Nat → Prop} {w w' : World} (h : Chg D w w') : Chg D w w'.drew := ⟨h.os, h.tape, h.output, h.size, h.block⟩
theorem Chg.keep {D : Nat → Prop} {w w' : World} (h : Chg D w w') {b : Nat} {o : Obj} (hb : w.heap[b]? = some o) (hD : ¬ D b) : w'.heap[b]? = some o := by
  have hlt : b < w.heap.size := by
    rcases Nat.lt_or_ge b w.heap.size with h' | h'
    · exact h'
    · simp [Array.getElem?_eq_none h'] at hb
  exact (h.block b hlt hD).trans hb
/-- A slice's block is none of these. -/
def Nb (D : Nat → Prop) (A : Option Addr) : Prop := ∀ a, A = some a → ¬ D a.block
theorem Rd.chg {D : Nat → Prop} {w w' : World} {A : Option Addr} {xs : List Value} (h : Rd w w.heap.size A xs) (hc : Chg D w w') (hn : Nb D A) : Rd w' w'.heap.size A xs := by
  rcases h with h | ⟨b, off, e, hlt, h⟩
  · exact .inl h
  · refine .inr ⟨b, off, e, Nat.lt_of_lt_of_le hlt hc.size, fun j u hj => ?_⟩
    rw [World.cell?_of_block (a := ⟨b, off + j, none⟩) (hc.block b hlt (hn _ e))]
    exact h j u hj
theorem RE.Rd.chg {α : Type} {E : RE α} {D : Nat → Prop} {w w' : World} {A : Option Addr} {xs : List α} (h : E.Rd w A xs) (hc : Chg D w w') (hn : Nb D A) : E.Rd w' A xs := Go.Proofs.YtdebedeebmmleaaGreatDoor.Rd.chg h hc hn
theorem RE.Row.chg {α : Type} {E : RE α} {D : Nat → Prop} {w w' : World} {base : Nat} {A : Option Addr} {l : List α} {c : Nat} (h : E.Row w base A l c) (hc : Chg D w w') (hn : ∀ g, RE.fp A c = some g → ¬ D g) : E.Row w' base A l c := by
  rcases h with h | ⟨h0, h⟩
  · exact .inl h
  · refine .inr ⟨h0, h.1, ?_⟩
    rcases h.2 with h1 | ⟨g, cap, cur, e, hb, hg, rest⟩
    · exact .inl h1
    · refine .inr ⟨g, cap, cur, e, hb, hc.keep hg (hn g ?_), rest⟩
      injection e with e1 e2 e3
      have hc0 : ¬ c = 0 := by omega
      simp [RE.fp, hc0, e1]
def ES : RE ByteArray where
  st := 39
  et := 9
  k := 1
  by_ := 16
  z := .string ⟨#[]⟩
  cs := fun x => [.string x]
  kpos := by omega
  len := fun _ => rfl
  one := fun x u hu => by simp at hu; rcases hu with rfl; rfl
  und := Tryz.underlying39
  info := by kernel_rfl
  zk := rfl
  bmax := by omega
def EI : RE Int where
  st := 40
  et := 3
  k := 1
  by_ := 8
  z := .int .i64 0
  cs := fun x => [.int .i64 x]
  kpos := by omega
  len := fun _ => rfl
  one := fun x u hu => by simp at hu; rcases hu with rfl; rfl
  und := Tryz.underlying40
  info := by kernel_rfl
  zk := rfl
  bmax := by omega
def EB : RE UInt8 where
  st := 47
  et := 5
  k := 1
  by_ := 1
  z := .int .u8 0
  cs := fun x => [.int .u8 x.toNat]
  kpos := by omega
  len := fun _ => rfl
  one := fun x u hu => by simp at hu; rcases hu with rfl; rfl
  und := Tryz.underlying47
  info := by kernel_rfl
  zk := rfl
  bmax := by omega
def EM : RE M where
  st := 41
  et := 73
  k := 6
  by_ := 72
  z := .agg #[.int .u8 0, .int .i64 0, .string ⟨#[]⟩, .string ⟨#[]⟩, .string ⟨#[]⟩, .int .u64 0]
  cs := fun m => [.int .u8 m.k, .int .i64 m.q, .string m.key, .string m.too, .string m.val, .int .u64 m.dl]
  kpos := by omega
  len := fun _ => rfl
  one := fun x u hu => by simp at hu; rcases hu with rfl | rfl | rfl | rfl | rfl | rfl <;> rfl
  und := Tryz.underlying41
  info := by kernel_rfl
  zk := rfl
  bmax := by omega
theorem es_at {w : World} {A : Option Addr} {xs : List ByteArray} (h : ES.Rd w A xs) {i : Nat} {x : ByteArray} (hi : xs[i]? = some x) : ∃ b off, A = some ⟨b, off, none⟩ ∧ b < w.heap.size ∧ w.cell? ⟨b, off + i, none⟩ = some (.string x) := by
  obtain ⟨b, off, e, h1, h2⟩ := h.get hi
  exact ⟨b, off, e, h1, by simpa [ES] using h2 0 _ rfl⟩
theorem ei_at {w : World} {A : Option Addr} {xs : List Int} (h : EI.Rd w A xs) {i : Nat} {x : Int} (hi : xs[i]? = some x) : ∃ b off, A = some ⟨b, off, none⟩ ∧ b < w.heap.size ∧ w.cell? ⟨b, off + i, none⟩ = some (.int .i64 x) := by
  obtain ⟨b, off, e, h1, h2⟩ := h.get hi
  exact ⟨b, off, e, h1, by simpa [EI] using h2 0 _ rfl⟩
theorem es_all (xs : List ByteArray) : ES.all xs = xs.map Value.string := by
  induction xs with
  | nil => rfl
  | cons x xs ih => rw [RE.all_cons, ih]; rfl
/-- What the package's variables hold. -/
structure GW (w : World) : Prop where
  an : ∀ i v, ([2147483647, 2147483647, 0, 0, 0, 0, 0, 0, 0] : List Int)[i]? = some v → w.cell? ⟨0, i, none⟩ = some (.int .i64 v)
  mx : ∃ m, w.cell? ⟨2, 0, none⟩ = some (.int .i64 m)
  sy : ∃ ev, w.cell? ⟨3, 0, none⟩ = some ev ∧ (ev = .nilIface ∨ ∃ te pe, ev = .iface te pe)
  rg : ∃ ev, w.cell? ⟨4, 0, none⟩ = some ev ∧ (ev = .nilIface ∨ ∃ te pe, ev = .iface te pe)
  tb : Lib.TabIs Tryz.prog w "internal/strconv.uint64pow10" .u64 Lib.pow10Tab
theorem GW.later {w w' : World} (h : GW w) (b : Below w.heap.size w w') : GW w' := by
  obtain ⟨m, h1⟩ := h.mx
  obtain ⟨e2, h2, h3⟩ := h.sy
  obtain ⟨e4, h4, h5⟩ := h.rg
  exact ⟨fun i v hv => bel_later b (h.an i v hv), ⟨m, bel_later b h1⟩, ⟨e2, bel_later b h2, h3⟩, ⟨e4, bel_later b h4, h5⟩, Lib.tabBelow_of_tabIs h.tb _ b⟩
/-- They hold it as long as nothing changes below a mark. -/
structure GB (B : Nat) (w : World) : Prop where
  le : B ≤ w.heap.size
  all : ∀ W, Below B w W → GW W
theorem GB.of {w : World} (h : GW w) : GB w.heap.size w := ⟨Nat.le_refl _, fun W b => h.later b⟩
theorem GB.gw {B : Nat} {w : World} (h : GB B w) : GW w := h.all w (Below.refl _ _)
theorem GB.bel {B : Nat} {w w' : World} (h : GB B w) (b : Below B w w') : GB B w' := ⟨Nat.le_trans h.le b.size, fun W c => h.all W (b.trans c)⟩
theorem GB.later {B : Nat} {w w' : World} (h : GB B w) (b : Below w.heap.size w w') : GB B w' := h.bel (b.mono h.le)
theorem GB.chg {B g : Nat} {w w' : World} (h : GB B w) (hc : Chg (fun x => x = g) w w') (hg : B ≤ g) : GB B w' := h.bel (hc.below (fun x e => by omega) h.le)
variable {nV aV : Value}
/-- A reader's block. -/
def RB (nV aV : Value) (w : World) (g : Nat) (t : ByteArray) (ln : Int) : Prop := w.heap[g]? = some (.cells #[.string t, .int .i64 ln, nV, aV] 66 (0, 0))
theorem RB.lt {w : World} {g : Nat} {t : ByteArray} {ln : Int} (h : RB nV aV w g t ln) : g < w.heap.size := by
  rcases Nat.lt_or_ge g w.heap.size with h' | h'
  · exact h'
  · simp [RB, Array.getElem?_eq_none h'] at h
theorem RB.c0 {w : World} {g : Nat} {t : ByteArray} {ln : Int} (h : RB nV aV w g t ln) : w.cell? ⟨g, 0, none⟩ = some (.string t) := by
  unfold RB at h; simp [World.cell?, h]
theorem RB.c1 {w : World} {g : Nat} {t : ByteArray} {ln : Int} (h : RB nV aV w g t ln) : w.cell? ⟨g, 1, none⟩ = some (.int .i64 ln) := by
  unfold RB at h; simp [World.cell?, h]
theorem RB.c2 {w : World} {g : Nat} {t : ByteArray} {ln : Int} (h : RB nV aV w g t ln) : w.cell? ⟨g, 2, none⟩ = some nV := by
  unfold RB at h; simp [World.cell?, h]
theorem RB.c3 {w : World} {g : Nat} {t : ByteArray} {ln : Int} (h : RB nV aV w g t ln) : w.cell? ⟨g, 3, none⟩ = some aV := by
  unfold RB at h; simp [World.cell?, h]
theorem RB.fr {w : World} {g : Nat} {t : ByteArray} {ln : Int} (h : RB nV aV w g t ln) (j : Nat) : w.frozen? ⟨g, j, none⟩ = false := by
  unfold RB at h; simp [World.frozen?, h]
theorem RB.set0 {w : World} {g : Nat} {t : ByteArray} {ln : Int} (h : RB nV aV w g t ln) (t' : ByteArray) : RB nV aV (w.setCell ⟨g, 0, none⟩ (.string t')) g t' ln := by
  unfold RB at h ⊢; simp [World.setCell, Array.getElem?_modify, h]
theorem RB.set1 {w : World} {g : Nat} {t : ByteArray} {ln : Int} (h : RB nV aV w g t ln) (ln' : Int) : RB nV aV (w.setCell ⟨g, 1, none⟩ (.int .i64 ln')) g t ln' := by
  unfold RB at h ⊢; simp [World.setCell, Array.getElem?_modify, h]
theorem RB.set2 {w : World} {g : Nat} {t : ByteArray} {ln : Int} (h : RB nV aV w g t ln) (v : Value) : RB v aV (w.setCell ⟨g, 2, none⟩ v) g t ln := by
  unfold RB at h ⊢; simp [World.setCell, Array.getElem?_modify, h]
theorem RB.set3 {w : World} {g : Nat} {t : ByteArray} {ln : Int} (h : RB nV aV w g t ln) (v : Value) : RB nV v (w.setCell ⟨g, 3, none⟩ v) g t ln := by
  unfold RB at h ⊢; simp [World.setCell, Array.getElem?_modify, h]
theorem RB.later {w w' : World} {g : Nat} {t : ByteArray} {ln : Int} (h : RB nV aV w g t ln) (b : Below w.heap.size w w') : RB nV aV w' g t ln := keep_bel b h
/-- A fault that is thrown. -/
def FP (ln er : Int) : PanicEntry := { v := .iface 63 (.agg #[.int .i64 ln, .int .i64 er]), recovered := false }
theorem check_ok (g : Nat) (er : Int) (w : World) : Calls Tryz.prog 51 #[.pointer (some ⟨g, 0, none⟩), .bool true, .int .i64 er] w fun e w' => e = .returned (.tuple #[]) ∧ w = w' := by
  go_enter Tryz.func51, Tryz.ntmps51
  go_wp2
  go_end0
  exact ⟨rfl, rfl⟩
theorem check_bad (g : Nat) (er : Int) (w : World) {t : ByteArray} {ln : Int} (h : RB nV aV w g t ln) : Calls Tryz.prog 51 #[.pointer (some ⟨g, 0, none⟩), .bool false, .int .i64 er] w fun e w' => e = .panicked [FP ln er] ∧ w = w' := by
  have c1 := h.c1
  clear h
  go_enter Tryz.func51, Tryz.ntmps51
  go_wp2
  exact ⟨rfl, rfl, rfl⟩
end Go.Proofs.YtdebedeebmmleaaGreatDoor
