/- What a script is made of, in memory. -/
import Derived.Test.YtnchpfmpjpnciaaA8
namespace Go.Proofs.Ytnchpfmpjpnciaa
set_option linter.unusedSimpArgs false
open Go.RowKit Go.Maps Go.Shelf
set_option linter.unusedVariables false
/-- A row of cells that is read, in a block of D. -/
def RdB (w : World) (D : Nat → Prop) (A : Option Addr) (l : List Value) : Prop := l = [] ∨ ∃ g, A = some ⟨g, 0, none⟩ ∧ D g ∧ g < w.heap.size ∧ ∀ j u, l[j]? = some u → w.cell? ⟨g, j, none⟩ = some u
theorem RdB.chg {w w' : World} {D D' E : Nat → Prop} {A : Option Addr} {l : List Value} (h : RdB w D A l) (hc : Chg E w w') (hE : ∀ g, D g → ¬ E g) (hD : ∀ g, D g → D' g) : RdB w' D' A l := by
  rcases h with h | ⟨g, h1, h2, h3, h4⟩
  · exact .inl h
  · refine .inr ⟨g, h1, hD g h2, Nat.lt_of_lt_of_le h3 hc.size, fun j u hj => ?_⟩
    rw [World.cell?_of_block (a := ⟨g, j, none⟩) (hc.block g h3 (hE g h2))]
    exact h4 j u hj
theorem RdB.of {w : World} {lo : Nat} {A : Option Addr} {l : List Value} (h : RdV w lo A l) : RdB w (fun g => lo ≤ g ∧ g < w.heap.size) A l := by
  rcases h with h | ⟨g, h1, h2, h3, h4⟩
  · exact .inl h
  · exact .inr ⟨g, h1, ⟨h2, h3⟩, h3, h4⟩
theorem RdB.more {w : World} {D D' : Nat → Prop} {A : Option Addr} {l : List Value} (h : RdB w D A l) (hD : ∀ g, D g → D' g) : RdB w D' A l := by
  rcases h with h | ⟨g, h1, h2, h3, h4⟩
  · exact .inl h
  · exact .inr ⟨g, h1, hD g h2, h3, h4⟩
-- operations in a row
def opstep (S : Int) : Int := opS (bl S 8) (bs S 8)
def ost (S : Int) : Nat → Int
  | 0 => S
  | m + 1 => opstep (ost S m)
def oK (S : Int) : Int := opK (bl S 8)
def oY (S : Int) : ByteArray := opY (bl S 8) (bs S 8)
def oN (S : Int) : Int := opN (bl S 8) (bs S 8)
def oL (S : Int) : Nat := opL (bl S 8) (bs S 8)
def oR (S : Int) : List Value := mrow (bs (bs S 8) 3) (oL S)
def ocell (S : Int) (B : Option Addr) (c : Nat) : List Value := [.int .u8 (oK S), .string (oY S), .string ⟨#[]⟩, .int .i64 (oN S), .slice B (oL S) c]
def OC (w : World) (D : Nat → Prop) (S : Int) : Nat → List Value → Prop
  | 0, l => l = []
  | m + 1, l => ∃ l0 B c, l = l0 ++ ocell (ost S m) B c ∧ OC w D S m l0 ∧ RdB w D B (oR (ost S m))
theorem OC.len {w : World} {D : Nat → Prop} {S : Int} : ∀ {m : Nat} {l : List Value}, OC w D S m l → l.length = m * 5
  | 0, l, h => by rw [show l = [] from h]; rfl
  | m + 1, l, h => by
    obtain ⟨l0, B, c, rfl, h1, _⟩ := h
    rw [List.length_append, h1.len]; simp [ocell]; omega
theorem OC.chg {w w' : World} {D D' E : Nat → Prop} {S : Int} (hc : Chg E w w') (hE : ∀ g, D g → ¬ E g) (hD : ∀ g, D g → D' g) : ∀ {m : Nat} {l : List Value}, OC w D S m l → OC w' D' S m l
  | 0, l, h => h
  | m + 1, l, h => by
    obtain ⟨l0, B, c, e, h1, h2⟩ := h
    exact ⟨l0, B, c, e, OC.chg hc hE hD h1, h2.chg hc hE hD⟩
theorem OC.at_ {w : World} {D : Nat → Prop} {S : Int} {j : Nat} : ∀ {m : Nat} {l : List Value}, OC w D S m l → j < m → ∃ B c, (∀ i, i < 5 → l[j * 5 + i]? = (ocell (ost S j) B c)[i]?) ∧ RdB w D B (oR (ost S j))
  | 0, l, h, hj => by omega
  | m + 1, l, h, hj => by
    obtain ⟨l0, B, c, rfl, h1, h2⟩ := h
    have hl := h1.len
    by_cases e : j < m
    · obtain ⟨B', c', h3, h4⟩ := OC.at_ h1 e
      exact ⟨B', c', fun i hi => by rw [List.getElem?_append_left (by omega)]; exact h3 i hi, h4⟩
    · obtain rfl : j = m := by omega
      exact ⟨B, c, fun i hi => by rw [List.getElem?_append_right (by omega), hl]; congr 1; omega, h2⟩
-- rows of operations in a row
def sst (S : Int) (m : Nat) : Nat → Int
  | 0 => S
  | n + 1 => ost (sst S m n) m
def SC (w : World) (D : Nat → Prop) (m : Nat) (S : Int) : Nat → List Value → Prop
  | 0, l => l = []
  | n + 1, l => ∃ l0 A c lr, l = l0 ++ [.slice A m c] ∧ SC w D m S n l0 ∧ RdB w D A lr ∧ OC w D (sst S m n) m lr
theorem SC.len {w : World} {D : Nat → Prop} {m : Nat} {S : Int} : ∀ {n : Nat} {l : List Value}, SC w D m S n l → l.length = n
  | 0, l, h => by rw [show l = [] from h]; rfl
  | n + 1, l, h => by
    obtain ⟨l0, A, c, lr, rfl, h1, _⟩ := h
    rw [List.length_append, h1.len]; rfl
theorem SC.chg {w w' : World} {D D' E : Nat → Prop} {m : Nat} {S : Int} (hc : Chg E w w') (hE : ∀ g, D g → ¬ E g) (hD : ∀ g, D g → D' g) : ∀ {n : Nat} {l : List Value}, SC w D m S n l → SC w' D' m S n l
  | 0, l, h => h
  | n + 1, l, h => by
    obtain ⟨l0, A, c, lr, e, h1, h2, h3⟩ := h
    exact ⟨l0, A, c, lr, e, SC.chg hc hE hD h1, h2.chg hc hE hD, h3.chg hc hE hD⟩
theorem SC.at_ {w : World} {D : Nat → Prop} {m : Nat} {S : Int} {i : Nat} : ∀ {n : Nat} {l : List Value}, SC w D m S n l → i < n → ∃ A c lr, l[i]? = some (.slice A m c) ∧ RdB w D A lr ∧ OC w D (sst S m i) m lr
  | 0, l, h, hi => by omega
  | n + 1, l, h, hi => by
    obtain ⟨l0, A, c, lr, rfl, h1, h2, h3⟩ := h
    have hl := h1.len
    by_cases e : i < n
    · obtain ⟨A', c', lr', h4, h5⟩ := SC.at_ h1 e
      exact ⟨A', c', lr', by rw [List.getElem?_append_left (by omega)]; exact h4, h5⟩
    · obtain rfl : i = n := by omega
      exact ⟨A, c, lr, by rw [List.getElem?_append_right (by omega), hl]; simp, h2, h3⟩
-- picks
def pst (S s : Int) : Nat → Int
  | 0 => S
  | n + 1 => bs (pst S s n) s
def prow (S s : Int) : Nat → List Value
  | 0 => []
  | n + 1 => prow S s n ++ [.int .i64 (bl (pst S s n) s + 1)]
theorem prow_length (S s : Int) (n : Nat) : (prow S s n).length = n := by
  induction n with
  | zero => rfl
  | succ n ih => rw [prow, List.length_append, ih]; rfl
theorem prow_at (S s : Int) {n k : Nat} (hk : k < n) : (prow S s n)[k]? = some (.int .i64 (bl (pst S s k) s + 1)) := by
  induction n with
  | zero => omega
  | succ n ih =>
    have hl := prow_length S s n
    rw [prow]
    by_cases h : k < n
    · rw [List.getElem?_append_left (by omega)]; exact ih h
    · obtain rfl : k = n := by omega
      rw [List.getElem?_append_right (by omega), hl]; simp
end Go.Proofs.Ytnchpfmpjpnciaa
