/- Unpack's calls: the check, the deferred closure, and a reader's number. -/
import Derived.Defers
import Derived.Recover
import Derived.Test.YteiifcmdpoonmaaL1
import Derived.Test.YteiifcmdpoonmaaW3
import Derived.Test.YteiifcmdpoonmaaX4
namespace Go.Proofs.Yteiifcmdpoonmaa
set_option linter.unusedSimpArgs false
open Go.RowKit Go.Maps Go.Shelf
set_option linter.unusedVariables false
-- what changes, and what stays
structure Chg (D : Nat → Prop) (w w' : World) : Prop where
  os : w'.os = w.os
  tape : w'.tape = w.tape
  output : w'.output = w.output
  size : w.heap.size ≤ w'.heap.size
  block : ∀ g, g < w.heap.size → ¬ D g → w'.heap[g]? = w.heap[g]?
theorem Chg.refl (D : Nat → Prop) (w : World) : Chg D w w := ⟨rfl, rfl, rfl, Nat.le_refl _, fun _ _ _ => rfl⟩
theorem Chg.of_below {D : Nat → Prop} {w w' : World} (h : Below w.heap.size w w') : Chg D w w' := ⟨h.os, h.tape, h.output, h.size, fun g hg _ => h.block g hg⟩
theorem Chg.trans {F G : Nat → Prop} {w w1 w2 : World} (h : Chg F w w1) (k : Chg G w1 w2) (hG : ∀ g, G g → F g ∨ w.heap.size ≤ g) : Chg F w w2 :=
  ⟨k.os.trans h.os, k.tape.trans h.tape, k.output.trans h.output, Nat.le_trans h.size k.size, fun g hg hn => (k.block g (Nat.lt_of_lt_of_le hg h.size) (fun e => by rcases hG g e with x | x; exact hn x; omega)).trans (h.block g hg hn)⟩
theorem Chg.more {F G : Nat → Prop} {w w' : World} (h : Chg F w w') (hG : ∀ g, F g → G g ∨ w.heap.size ≤ g) : Chg G w w' := ⟨h.os, h.tape, h.output, h.size, fun g hg hn => h.block g hg (fun e => by rcases hG g e with x | x; exact hn x; omega)⟩
theorem Chg.below {F : Nat → Prop} {w w' : World} {lo : Nat} (h : Chg F w w') (hF : ∀ g, F g → lo ≤ g) (hlo : lo ≤ w.heap.size) : Below lo w w' :=
  ⟨h.os, h.tape, h.output, h.size, fun g hg => h.block g (by omega) (fun e => by have := hF g e; omega)⟩
theorem Chg.set {D : Nat → Prop} (w : World) {l o : Nat} (v : Value) (hl : D l) : Chg D w (w.setCell ⟨l, o, none⟩ v) :=
  ⟨rfl, rfl, rfl, by simp, fun g hg hn => by
    have : l ≠ g := fun e => hn (e ▸ hl)
    simp [World.setCell, Array.getElem?_modify, this]⟩
theorem Chg.low {B : Nat} {w w' : World} (h : Below B w w') : Chg (fun g => B ≤ g) w w' := ⟨h.os, h.tape, h.output, h.size, fun g _ hn => h.block g (by omega)⟩
theorem keep_bel {w w' : World} {x : Nat} {o : Obj} (h : Below w.heap.size w w') (ho : w.heap[x]? = some o) : w'.heap[x]? = some o :=
  (h.block x (by
    rcases Nat.lt_or_ge x w.heap.size with h' | h'
    · exact h'
    · simp [Array.getElem?_eq_none h'] at ho)).trans ho
theorem keep_chg {E : Nat → Prop} {w w' : World} {x : Nat} {o : Obj} (hc : Chg E w w') (ho : w.heap[x]? = some o) (hx : ¬ E x) : w'.heap[x]? = some o :=
  (hc.block x (by
    rcases Nat.lt_or_ge x w.heap.size with h' | h'
    · exact h'
    · simp [Array.getElem?_eq_none h'] at ho) hx).trans ho
theorem alb (w : World) (o : Obj) : Below w.heap.size w (w.alloc o) := by go_grown
theorem drew_bel (w : World) : Below w.heap.size w w.drew := (Below.refl _ _).drew
/-- A reader's block. -/
def Rdr (w : World) (r : Nat) (s : ByteArray) : Prop := w.heap[r]? = some (.cells #[.string s] 41 (0, 0))
theorem Rdr.cell {w : World} {r : Nat} {s : ByteArray} (h : Rdr w r s) : w.cell? ⟨r, 0, none⟩ = some (.string s) := by
  unfold Rdr at h; simp [World.cell?, h]
theorem Rdr.free {w : World} {r : Nat} {s : ByteArray} (h : Rdr w r s) : w.frozen? ⟨r, 0, none⟩ = false := by
  unfold Rdr at h; simp [World.frozen?, h]
theorem Rdr.later {w w' : World} {r : Nat} {s : ByteArray} (h : Rdr w r s) (hb : Below w.heap.size w w') : Rdr w' r s := keep_bel hb h
theorem Rdr.set {w : World} {r : Nat} {s : ByteArray} (h : Rdr w r s) (t : ByteArray) : Rdr (w.setCell ⟨r, 0, none⟩ (.string t)) r t := by
  unfold Rdr at h ⊢; simp [World.setCell, Array.getElem?_modify, h]
/-- A reader goes on; nothing else changes. -/
def Go1 (r : Nat) (t : ByteArray) (w w' : World) : Prop := Rdr w' r t ∧ Chg (fun x => x = r) w w'
theorem Go1.rdr {r : Nat} {t : ByteArray} {w w' : World} (h : Go1 r t w w') : Rdr w' r t := h.1
theorem Go1.chg {r : Nat} {t : ByteArray} {w w' : World} (h : Go1 r t w w') : Chg (fun x => x = r) w w' := h.2
theorem Go1.trans {r : Nat} {t u : ByteArray} {w w1 w2 : World} (h : Go1 r t w w1) (k : Go1 r u w1 w2) : Go1 r u w w2 := ⟨k.1, h.2.trans k.2 (fun _ e => .inl e)⟩
theorem Go1.later {r : Nat} {t : ByteArray} {w w1 w2 : World} (h : Go1 r t w w1) (k : Below w1.heap.size w1 w2) : Go1 r t w w2 := ⟨h.1.later k, h.2.trans (Chg.of_below (D := fun _ => False) k) (fun _ e => e.elim)⟩
theorem Go1.ahead {r : Nat} {t : ByteArray} {w w1 w2 : World} (k : Below w.heap.size w w1) (h : Go1 r t w1 w2) : Go1 r t w w2 := ⟨h.1, (Chg.of_below k).trans h.2 (fun _ e => .inl e)⟩
theorem check_ok (a : Value) (x : Int) (w : World) : Calls Try.prog 21 #[a, .bool true, .int .i64 x] w fun e w' => e = .returned (.tuple #[]) ∧ w = w' := by
  go_enter Try.func21, Try.ntmps21
  go_wp2
  go_end0
  exact ⟨rfl, rfl⟩
/-- The deferred closure where nothing panicked. -/
theorem catch_idle (p q : Addr) (w : World) :
    CallsD Try.prog 18 #[.pointer (some p), .pointer (some q)] .returning w fun e u' w' => e = .returned (.tuple #[]) ∧ u' = .returning ∧ w' = w := by
  refine callsD_of_wpS Try.func18 rfl fun c₀ cs hu => ?_
  apply wpS_seq
  apply wpS_region
  simp [wpOpsS, go_sem, recoverD, hu, Try.ntmps18, Exit.thenS]
  refine wpS_of_wp ?_
  go_wp2
  cases c₀
  simp_all [bodyPostS, results, Try.results18]
theorem num_ok (s rest : ByteArray) (n : Int) (r : Nat) (w : World) (h : Rdr w r s) (ht : tnF s = (n, rest, 0)) :
    Calls Try.prog 19 #[.pointer (some ⟨r, 0, none⟩)] w fun e w' => e = .returned (.int .i64 n) ∧ Go1 r rest w w' := by
  have H := Lib.hid h
  have c0 := h.cell
  have TN : Hid (Calls Try.prog 35 #[.string s] w fun e w' => e = .returned (.tuple #[.int .i64 n, .string rest, .int .i64 0]) ∧ Below w.heap.size w w') := Lib.hid (by
    have q := takeNum_any s w
    rw [ht] at q
    exact q)
  clear h ht
  go_enter Try.func19, Try.ntmps19
  go_wp2_with (first
    | (go_at_call 35; ((with_reducible refine TN.out.mono ?_); rintro e w1 ⟨rfl, b1⟩; have B1 := Lib.hid b1; have H1 := Lib.hid (H.out.later b1); have c1 := H1.out.cell; have f1 := H1.out.free; clear b1))
    | (go_at_call 21; ((with_reducible refine (check_ok _ _ _).mono ?_); rintro e w2 ⟨rfl, rfl⟩))
    | fail)
  go_ret
  exact ⟨rfl, H1.out.set _, (Chg.of_below B1.out).trans (Chg.set (D := fun x => x = r) w1 _ rfl) (fun _ e => .inl e)⟩
theorem text_ok (s x rest : ByteArray) (most : Int) (r : Nat) (w : World) (h : Rdr w r s) (ht : ttF s most = (x, rest, 0)) :
    Calls Try.prog 36 #[.pointer (some ⟨r, 0, none⟩), .int .i64 most] w fun e w' => e = .returned (.string x) ∧ Go1 r rest w w' := by
  have H := Lib.hid h
  have c0 := h.cell
  have TN : Hid (Calls Try.prog 39 #[.string s, .int .i64 most] w fun e w' => e = .returned (.tuple #[.string x, .string rest, .int .i64 0]) ∧ Below w.heap.size w w') := Lib.hid (by
    have q := takeText_any s most w
    rw [ht] at q
    exact q)
  clear h ht
  go_enter Try.func36, Try.ntmps36
  go_wp2_with (first
    | (go_at_call 39; ((with_reducible refine TN.out.mono ?_); rintro e w1 ⟨rfl, b1⟩; have B1 := Lib.hid b1; have H1 := Lib.hid (H.out.later b1); have c1 := H1.out.cell; have f1 := H1.out.free; clear b1))
    | (go_at_call 21; ((with_reducible refine (check_ok _ _ _).mono ?_); rintro e w2 ⟨rfl, rfl⟩))
    | fail)
  go_ret
  exact ⟨rfl, H1.out.set _, (Chg.of_below B1.out).trans (Chg.set (D := fun x => x = r) w1 _ rfl) (fun _ e => .inl e)⟩
end Go.Proofs.Yteiifcmdpoonmaa
