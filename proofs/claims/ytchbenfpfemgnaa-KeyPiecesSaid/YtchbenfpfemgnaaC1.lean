/- The pieces of a range: Pieces' walk. -/
import Derived.Test.YtchbenfpfemgnaaA8
import Derived.Test.YtchbenfpfemgnaaA5
import Derived.Test.YtchbenfpfemgnaaL0
namespace Go.Proofs.Ytchbenfpfemgnaa
set_option linter.unusedSimpArgs false
open Go.RowKit
set_option linter.unusedVariables false

/-- Two texts' cells, one pair behind the other. -/
def flat (l : List (ByteArray × ByteArray)) : List Value := l.flatMap fun p => [.string p.1, .string p.2]
theorem flat_snoc (l : List (ByteArray × ByteArray)) (p : ByteArray × ByteArray) : flat (l ++ [p]) = flat l ++ [.string p.1, .string p.2] := by simp [flat]
theorem flat_len (l : List (ByteArray × ByteArray)) : (flat l).length = l.length * 2 := by
  induction l with
  | nil => rfl
  | cons x l ih =>
    have : flat (x :: l) = [.string x.1, .string x.2] ++ flat l := rfl
    rw [this, List.length_append, ih]; simp; omega
theorem flat_get (l : List (ByteArray × ByteArray)) (i : Nat) (h : i < l.length) : (flat l)[i * 2]? = some (.string l[i].1) ∧ (flat l)[i * 2 + 1]? = some (.string l[i].2) := by
  induction l generalizing i with
  | nil => simp at h
  | cons x l ih =>
    have e : flat (x :: l) = .string x.1 :: .string x.2 :: flat l := rfl
    cases i with
    | zero => rw [e]; simp
    | succ i =>
      have := ih i (by simpa using h)
      rw [e, show (i + 1) * 2 = i * 2 + 1 + 1 by omega]
      simpa using this

/-- What stands behind one end more: the pieces, and where the rest begins. -/
def pst (t : ByteArray) (x : List (ByteArray × ByteArray) × ByteArray) (e : ByteArray) : List (ByteArray × ByteArray) × ByteArray :=
  if lt x.2 e = true ∧ sb e t = true then (x.1 ++ [(x.2, e)], e) else x
def pss (f t : ByteArray) (l : List ByteArray) : List (ByteArray × ByteArray) × ByteArray := l.foldl (pst t) ([], f)
def pcs (f t : ByteArray) (l : List ByteArray) : List (ByteArray × ByteArray) :=
  if sb f t = true then (pss f t l).1 ++ [((pss f t l).2, t)] else []
theorem pss_snoc (f t : ByteArray) (l : List ByteArray) (e : ByteArray) : pss f t (l ++ [e]) = pst t (pss f t l) e := by simp [pss]
theorem pst_sb (t : ByteArray) (x : List (ByteArray × ByteArray) × ByteArray) (e : ByteArray) (h : sb x.2 t = true) : sb (pst t x e).2 t = true := by
  unfold pst
  split
  · rename_i c; exact c.2
  · exact h
theorem pss_sb (f t : ByteArray) (l : List ByteArray) (h : sb f t = true) : sb (pss f t l).2 t = true := by
  unfold pss
  suffices ∀ (l : List ByteArray) (x : List (ByteArray × ByteArray) × ByteArray), sb x.2 t = true → sb (l.foldl (pst t) x).2 t = true from this l _ h
  intro l
  induction l with
  | nil => intro x h; exact h
  | cons e l ih => intro x h; exact ih _ (pst_sb t x e h)
theorem pss_len (f t : ByteArray) (l : List ByteArray) : (pss f t l).1.length ≤ l.length := by
  unfold pss
  suffices ∀ (l : List ByteArray) (x : List (ByteArray × ByteArray) × ByteArray), (l.foldl (pst t) x).1.length ≤ x.1.length + l.length from by simpa using this l ([], f)
  intro l
  induction l with
  | nil => intro x; simp
  | cons e l ih =>
    intro x
    have := ih (pst t x e)
    have h2 : (pst t x e).1.length ≤ x.1.length + 1 := by unfold pst; split <;> simp
    simp only [List.foldl_cons, List.length_cons]
    omega

theorem info28 : (Try.prog.info? 28).map (fun i => (i.zero, i.size, i.bytes)) = some (some (.agg #[.string ⟨#[]⟩, .string ⟨#[]⟩]), 2, 32) := by kernel_rfl

/-- A loop's state: the pieces so far, and the rest of the range in its block. -/
def PRel (f t : ByteArray) (ends : List ByteArray) (w : World) (k : Nat) (lv : Value) (wr : World) : Prop :=
  ∃ A c, lv = .slice A (pss f t (ends.take k)).1.length c ∧ wr.ownsRow w.heap.size 28 2 (.slice A (pss f t (ends.take k)).1.length c) (pss f t (ends.take k)).1.length (flat (pss f t (ends.take k)).1) ∧
    (Value.slice A (pss f t (ends.take k)).1.length c).ownBlock ≠ some w.heap.size ∧
    wr.cell? ⟨w.heap.size, 0, none⟩ = some (.string (pss f t (ends.take k)).2) ∧ wr.cell? ⟨w.heap.size, 1, none⟩ = some (.string t) ∧
    wr.frozen? ⟨w.heap.size, 0, none⟩ = false ∧ wr.frozen? ⟨w.heap.size, 1, none⟩ = false ∧ Below w.heap.size w wr

def GotPieces (F : List (ByteArray × ByteArray)) (w : World) (e : Ending) (w' : World) : Prop :=
  ∃ A c, e = .returned (.slice A F.length c) ∧ Rd w' w'.heap.size A (flat F) ∧ Below w.heap.size w w'

set_option maxRecDepth 100000 in
set_option maxHeartbeats 4000000 in
theorem pieces_no (f t : ByteArray) (E : Option Addr) (n c : Nat) (ends : List ByteArray) (w : World) (h : sb f t = false) :
    Calls Try.prog 26 #[.agg #[.string f, .string t], .slice E n c] w (GotPieces (pcs f t ends) w) := by
  have e : Hid (pcs f t ends = []) := Lib.hid (by unfold pcs; rw [h]; rfl)
  have C := fun w => rightRange_at f t w
  rw [h] at C
  have CC := Lib.hid C
  clear C h
  go_enter Try.func26, Try.ntmps26
  go_wp2_with fail
  refine (CC.out _).mono ?_
  rintro e w1 ⟨rfl, rfl⟩
  go_wp2
  go_ret
  exact ⟨none, 0, by rw [e.out]; rfl, by rw [e.out]; exact Rd.nil, by go_grown⟩
end Go.Proofs.Ytchbenfpfemgnaa
