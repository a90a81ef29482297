/- Messages as rows. -/
import Derived.Test.YtdbnkeihnoglcaaG1
import Derived.Test.YtdbnkeihnoglcaaA7
namespace Go.Proofs.Ytdbnkeihnoglcaa
set_option linter.unusedSimpArgs false
open Go.RowKit Go.Maps
set_option linter.unusedVariables false
theorem alb (w : World) (o : Obj) : Below w.heap.size w (w.alloc o) := by go_grown
theorem keep_bel {w w' : World} {x : Nat} {o : Obj} (h : Below w.heap.size w w') (ho : w.heap[x]? = some o) : w'.heap[x]? = some o :=
  (h.block x (by
    rcases Nat.lt_or_ge x w.heap.size with h' | h'
    · exact h'
    · simp [Array.getElem?_eq_none h'] at ho)).trans ho
/-- A message. -/
structure MG where
  kd : Int
  sq : Int
  ky : ByteArray
  to : ByteArray
  vl : ByteArray
  dl : Int
/-- It is of a machine's size. -/
def MG.Ok (m : MG) : Prop := m.ky.size ≤ 140737488355328 ∧ m.to.size ≤ 140737488355328 ∧ m.vl.size ≤ 140737488355328
def EG : RE MG where
  st := 22
  et := 31
  k := 6
  by_ := 72
  z := .agg #[.int .u8 0, .int .i64 0, .string ⟨#[]⟩, .string ⟨#[]⟩, .string ⟨#[]⟩, .int .u64 0]
  cs := fun x => [.int .u8 x.kd, .int .i64 x.sq, .string x.ky, .string x.to, .string x.vl, .int .u64 x.dl]
  kpos := by omega
  len := fun _ => rfl
  one := fun x u hu => by simp at hu; rcases hu with rfl | rfl | rfl | rfl | rfl | rfl <;> rfl
  und := Try.underlying22
  info := by kernel_rfl
  zk := rfl
  bmax := by omega
abbrev MV (m : MG) : Value := .agg #[.int .u8 m.kd, .int .i64 m.sq, .string m.ky, .string m.to, .string m.vl, .int .u64 m.dl]
abbrev MO (m : MG) : Obj := .cells #[.int .u8 m.kd, .int .i64 m.sq, .string m.ky, .string m.to, .string m.vl, .int .u64 m.dl] 31 (0, 0)
theorem cells6 {W : World} {g : Nat} {a b c d e f : Value} {t : TypeId} (z : W.heap[g]? = some (.cells #[a, b, c, d, e, f] t (0, 0))) :
    W.cell? ⟨g, 0, none⟩ = some a ∧ W.cell? ⟨g, 1, none⟩ = some b ∧ W.cell? ⟨g, 2, none⟩ = some c ∧ W.cell? ⟨g, 3, none⟩ = some d ∧ W.cell? ⟨g, 4, none⟩ = some e ∧ W.cell? ⟨g, 5, none⟩ = some f := by
  refine ⟨?_, ?_, ?_, ?_, ?_, ?_⟩ <;> simp [World.cell?, z]
theorem eg_at {w : World} {A : Option Addr} {xs : List MG} (h : EG.Rd w A xs) {i : Nat} {x : MG} (hi : xs[i]? = some x) : ∃ b off, A = some ⟨b, off, none⟩ ∧ b < w.heap.size ∧ w.cell? ⟨b, off + i * 6, none⟩ = some (.int .u8 x.kd) ∧ w.cell? ⟨b, off + i * 6 + 1, none⟩ = some (.int .i64 x.sq) ∧ w.cell? ⟨b, off + i * 6 + 2, none⟩ = some (.string x.ky) ∧ w.cell? ⟨b, off + i * 6 + 3, none⟩ = some (.string x.to) ∧ w.cell? ⟨b, off + i * 6 + 4, none⟩ = some (.string x.vl) ∧ w.cell? ⟨b, off + i * 6 + 5, none⟩ = some (.int .u64 x.dl) := by
  obtain ⟨b, off, e, h1, h2⟩ := h.get hi
  exact ⟨b, off, e, h1, by simpa [EG] using h2 0 _ rfl, by simpa [EG] using h2 1 _ rfl, by simpa [EG] using h2 2 _ rfl, by simpa [EG] using h2 3 _ rfl, by simpa [EG] using h2 4 _ rfl, by simpa [EG] using h2 5 _ rfl⟩
end Go.Proofs.Ytdbnkeihnoglcaa
