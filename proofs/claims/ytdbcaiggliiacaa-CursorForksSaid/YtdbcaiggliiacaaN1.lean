/- Entries in memory. -/
import Derived.Maps.Views
import Derived.Maps.OwnOps
import Derived.Laws.MakeOwn
import Derived.Laws.Rows
import Derived.Laws.Tables
import Derived.Laws.CopyOwn
import Derived.Test.YtdbcaiggliiacaaL0
import Derived.Test.YtdbcaiggliiacaaRows
namespace Go.Proofs.Ytdbcaiggliiacaa
set_option linter.unusedSimpArgs false
open Go.RowKit Go.Maps
set_option linter.unusedVariables false
abbrev TT := ByteArray × ByteArray
/-- The cells of entries. -/
def cls (xs : List TT) : List Value := xs.flatMap fun x => [.string x.1, .string x.2]
theorem cls_nil : cls [] = [] := rfl
theorem cls_app (xs ys : List TT) : cls (xs ++ ys) = cls xs ++ cls ys := by simp [cls]
theorem cls_cons (x : TT) (xs : List TT) : cls (x :: xs) = .string x.1 :: .string x.2 :: cls xs := rfl
theorem cls_len (xs : List TT) : (cls xs).length = xs.length * 2 := by
  induction xs with
  | nil => rfl
  | cons x xs ih => rw [cls_cons]; simp only [List.length_cons, ih]; omega
theorem cls_drop (xs : List TT) (i : Nat) : cls (xs.drop i) = (cls xs).drop (i * 2) := by
  induction xs generalizing i with
  | nil => simp [cls]
  | cons x xs ih =>
    cases i with
    | zero => rfl
    | succ i => rw [List.drop_succ_cons, ih, cls_cons, show (i + 1) * 2 = i * 2 + 1 + 1 by omega]; rfl
theorem cls_take (xs : List TT) (i : Nat) : cls (xs.take i) = (cls xs).take (i * 2) := by
  induction xs generalizing i with
  | nil => simp [cls]
  | cons x xs ih =>
    cases i with
    | zero => rfl
    | succ i => rw [List.take_succ_cons, cls_cons, ih, cls_cons, show (i + 1) * 2 = i * 2 + 1 + 1 by omega]; rfl
theorem cls_get {xs : List TT} {k : Nat} {x : TT} (h : xs[k]? = some x) : (cls xs)[k * 2]? = some (.string x.1) ∧ (cls xs)[k * 2 + 1]? = some (.string x.2) := by
  induction xs generalizing k with
  | nil => simp at h
  | cons y ys ih =>
    cases k with
    | zero => simp at h; subst h; simp [cls]
    | succ k =>
      have := ih (k := k) (by simpa using h)
      have e : ∀ j, (cls (y :: ys))[j + 2]? = (cls ys)[j]? := fun j => by simp [cls]
      rw [show (k + 1) * 2 = k * 2 + 2 by omega, show k * 2 + 2 + 1 = k * 2 + 1 + 2 by omega, e, e]; exact this
theorem one_cls (l : List TT) : ∀ u ∈ cls l, u.oneCell' = true := by
  intro u hu
  obtain ⟨x, _, hx⟩ := List.mem_flatMap.1 hu
  simp at hx
  rcases hx with rfl | rfl <;> rfl
/-- Entries behind a slice's address. -/
abbrev RdT (w : World) (A : Option Addr) (xs : List TT) : Prop := Rd w w.heap.size A (cls xs)
theorem cls_empty {l : List TT} (h : cls l = []) : l = [] := by
  cases l with
  | nil => rfl
  | cons x xs => rw [cls_cons] at h; cases h
theorem rdt_get {w : World} {A : Option Addr} {xs : List TT} (h : RdT w A xs) {k : Nat} {x : TT} (hk : xs[k]? = some x) : ∃ b off, A = some ⟨b, off, none⟩ ∧ b < w.heap.size ∧ w.cell? ⟨b, off + k * 2, none⟩ = some (.string x.1) ∧ w.cell? ⟨b, off + k * 2 + 1, none⟩ = some (.string x.2) := by
  obtain ⟨h0, h1⟩ := cls_get hk
  obtain ⟨b, off, rfl, hlt, c0⟩ := Rd.get h h0
  obtain ⟨b2, off2, e2, _, c1⟩ := Rd.get h h1
  cases e2
  exact ⟨b, off, rfl, hlt, c0, c1⟩
theorem rdt_news {w : World} {b off : Nat} {l : List TT} (h : RdT w (some ⟨b, off, none⟩) l) : ∀ j u, (cls l)[j]? = some u → w.cell? ((⟨b, off, none⟩ : Addr).add j) = some u := by
  intro j u hu
  rcases h with h | ⟨b', off', e, hlt, hc⟩
  · rw [h] at hu; simp at hu
  · cases e
    have hadd : (⟨b, off, none⟩ : Addr).add j = ⟨b, off + j, none⟩ := by unfold Addr.add; split <;> simp_all
    rw [hadd]; exact hc j u hu
theorem rdt_take {w : World} {A : Option Addr} {l : List TT} (h : RdT w A l) (k : Nat) : RdT w A (l.take k) := by
  rcases h with h | ⟨b, off, e, hlt, hc⟩
  · left; rw [cls_empty h]; simp [cls]
  · refine .inr ⟨b, off, e, hlt, fun j u hj => hc j u ?_⟩
    rw [cls_take, List.getElem?_take] at hj
    split at hj
    · exact hj
    · simp at hj
theorem rdt_drop {w : World} {b off : Nat} {l : List TT} (h : RdT w (some ⟨b, off, none⟩) l) (i : Nat) : RdT w (some ⟨b, off + i * 2, none⟩) (l.drop i) := by
  rcases h with h | ⟨b', off', e, hlt, hc⟩
  · left; rw [cls_empty h]; simp [cls]
  · cases e
    refine .inr ⟨b, off + i * 2, rfl, hlt, fun j u hj => ?_⟩
    rw [cls_drop, List.getElem?_drop] at hj
    rw [Nat.add_assoc]; exact hc _ u hj
theorem rdt_later {w w' : World} {A : Option Addr} {l : List TT} (h : RdT w A l) (hb : Below w.heap.size w w') : RdT w' A l := Rd.later h hb
theorem infoE : (Try.prog.info? 44).map (fun i => (i.zero, i.size, i.bytes)) = some (some (.agg #[.string ⟨#[]⟩, .string ⟨#[]⟩]), 2, 32) := by kernel_rfl
theorem info_parts {z : Value} {n b : Nat} {t : TypeId} (h : (Try.prog.info? t).map (fun i => (i.zero, i.size, i.bytes)) = some (some z, n, b)) : ∃ i, Try.prog.info? t = some i ∧ i.zero = some z ∧ i.size = n ∧ i.bytes = b := by
  cases hi : Try.prog.info? t with
  | none => rw [hi] at h; simp at h
  | some i => rw [hi] at h; simp at h; exact ⟨i, rfl, h.1, h.2.1, h.2.2⟩
theorem own_cap {w : World} {base n c size : Nat} {e : TypeId} {A : Option Addr} {xs : List Value} (h : w.ownsRow base e size (.slice A n c) n xs) (hn : 0 < n) : n ≤ c ∧ c ≤ maxLen := by
  rcases h.2 with ⟨hv, h0⟩ | ⟨g, cap, cur, hv, _, _, h1, h2, _⟩
  · omega
  · cases hv; exact ⟨h1, h2⟩
/-- Entries in memory of its own, or an empty row that has no room. -/
def Row (w : World) (base : Nat) (A : Option Addr) (l : List TT) (c : Nat) : Prop :=
  (l = [] ∧ c = 0) ∨ (0 < c ∧ w.ownsRow base 44 2 (.slice A l.length c) l.length (cls l))
/-- The block that it may write. -/
def fpr (A : Option Addr) (c : Nat) : Option Nat := if c = 0 then none else A.map (·.block)
theorem Row.rd {w : World} {base : Nat} {A : Option Addr} {l : List TT} {c : Nat} (h : Row w base A l c) : RdT w A l := by
  rcases h with ⟨h, _⟩ | ⟨_, h⟩
  · subst h; exact .inl rfl
  · exact Rd.of_own h (by decide)
theorem Row.cap {w : World} {base : Nat} {A : Option Addr} {l : List TT} {c : Nat} (h : Row w base A l c) : l.length ≤ c ∧ c ≤ maxLen := by
  rcases h with ⟨h, h2⟩ | ⟨h0, h⟩
  · subst h h2; exact ⟨Nat.le_refl _, Nat.zero_le _⟩
  · rcases h.2 with ⟨hv, hn⟩ | ⟨g, cap, cur, hv, _, _, h1, h2, _⟩
    · injection hv with e1 e2 e3; omega
    · cases hv; exact ⟨h1, h2⟩
theorem Row.kept {w w' : World} {base : Nat} {A : Option Addr} {l : List TT} {c : Nat} {row : Option Nat} (h : Row w base A l c) (hg : w.grownBy w' row) (hne : fpr A c = none ∨ fpr A c ≠ row) : Row w' base A l c := by
  rcases h with h | ⟨h0, h⟩
  · exact .inl h
  · refine .inr ⟨h0, h.kept hg ?_⟩
    have hc : ¬ c = 0 := by omega
    cases A with
    | none => left; rfl
    | some a => right; rcases hne with hne | hne <;> simp [fpr, hc] at hne; simpa [Value.ownBlock] using hne
theorem Row.later {w w' : World} {base : Nat} {A : Option Addr} {l : List TT} {c : Nat} (h : Row w base A l c) (hb : Below w.heap.size w w') : Row w' base A l c := by
  rcases h with h | ⟨h0, h⟩
  · exact .inl h
  · exact .inr ⟨h0, own_bel h hb⟩
theorem Row.fp_lt {w : World} {base : Nat} {A : Option Addr} {l : List TT} {c g : Nat} (h : Row w base A l c) (hf : fpr A c = some g) : base ≤ g ∧ g < w.heap.size := by
  rcases h with ⟨_, h⟩ | ⟨h0, h⟩
  · subst h; simp [fpr] at hf
  · have hc : ¬ c = 0 := by omega
    cases A with
    | none => simp [fpr, hc] at hf
    | some a => simp [fpr, hc] at hf; exact h.lt g (by rw [← hf]; rfl)
theorem put_nothing (A0 A : Option Addr) (n0 c0 c : Nat) (hle : n0 ≤ c0) (ty : TypeId) (w : World) : (Builtin.append_ #[30, 30] ty #[.slice A0 n0 c0, .slice A 0 c]).run Try.prog w = .ok (.slice A0 (n0 + 0) c0) w := by
  obtain ⟨i0, hI0, hI1, hI2, hI3⟩ := info_parts infoE
  have hf : ∀ a : Addr, (Builtin.firstCells i0.size 0 (.slice (some a) 0 c)).run Try.prog w = .ok #[] w := fun a => run_firstCells_some (P := Try.prog) w i0.size 0 a 0 c [] (by simp) (fun j v hv => by simp at hv)
  have hg : (Builtin.firstCells i0.size 0 (.slice none 0 c)).run Try.prog w = .ok #[] w := run_firstCells_none w i0.size 0 0 c
  cases A with
  | none => cases A0 <;> simp [Builtin.append_, run_underlying Try.underlying30, sizeOf, typeInfo, hI0, Builtin.lenOf, storeCells, hle, hg]
  | some a => cases A0 <;> simp [Builtin.append_, run_underlying Try.underlying30, sizeOf, typeInfo, hI0, Builtin.lenOf, storeCells, hle, hf a]
theorem rows_old (w : World) (o : Obj) (i : Nat) (h : i < w.heap.size) : (w.alloc o).heap[i]? = w.heap[i]? := by
  show (w.heap.push o)[i]? = _
  rw [Array.getElem?_push, if_neg (by omega)]
/-- Entries are put behind entries. -/
theorem put_row {w : World} {base : Nat} {A0 : Option Addr} {c0 : Nat} {l0 : List TT} (h : Row w base A0 l0 c0) (hn : l0.length ≤ 1000000) (hb : base ≤ w.heap.size) (A : Option Addr) (c : Nat) (l : List TT) (hm : l.length ≤ 1000000) (hr : RdT w A l) (ty : TypeId) :
    ∃ A' c' w', (Builtin.append_ #[30, 30] ty #[.slice A0 l0.length c0, .slice A l.length c]).run Try.prog w = .ok (.slice A' (l0.length + l.length) c') w' ∧ Row w' base A' (l0 ++ l) c' ∧ w.grownBy w' (fpr A0 c0) ∧ (fpr A' c' = none ∨ fpr A' c' = fpr A0 c0 ∨ fpr A' c' = some w.heap.size) := by
  obtain ⟨i0, hI0, hI1, hI2, hI3⟩ := info_parts infoE
  by_cases hl : l = []
  · subst hl
    refine ⟨A0, c0, w, put_nothing A0 A l0.length c0 c h.cap.1 ty w, by rw [List.append_nil]; exact h, ⟨rfl, rfl, rfl, Nat.le_refl _, fun _ _ _ => rfl⟩, .inr (.inl rfl)⟩
  · have hlp : 0 < l.length := List.length_pos_iff.2 hl
    rcases hr with hr | ⟨b, off, rfl, hlt, hc⟩
    · exact absurd (cls_empty hr) hl
    · have hnews := rdt_news (.inr ⟨b, off, rfl, hlt, hc⟩ : RdT w (some ⟨b, off, none⟩) l)
      rcases h with ⟨rfl, rfl⟩ | ⟨h0, h⟩
      · have hcap := grownCap_le_maxLen w l.length 0 44 (by unfold maxLen; omega)
        have hge := grownCap_ge w l.length 0 44
        have hrun : (Builtin.append_ #[30, 30] ty #[.slice A0 0 0, .slice (some ⟨b, off, none⟩) l.length c]).run Try.prog w =
            .ok (.slice (some ⟨w.heap.size, 0, none⟩) l.length (grownCap w l.length 0 44)) (w.drew.alloc (.cells ((cls l).toArray ++ Builtin.zeroCells (Value.agg #[.string ⟨#[]⟩, .string ⟨#[]⟩]).cells (grownCap w l.length 0 44 - l.length)) 44)) := by
          cases A0 with
          | none => exact run_append_nil (P := Try.prog) w 30 ty 44 i0 (.agg #[.string ⟨#[]⟩, .string ⟨#[]⟩]) Try.underlying30 hI0 hI1 ⟨b, off, none⟩ l.length c (cls l) (by rw [cls_len, hI2]) hnews hlp (by omega) (by rw [hI3]; omega)
          | some a =>
            have h := run_append_grow (P := Try.prog) w 30 ty 44 i0 (.agg #[.string ⟨#[]⟩, .string ⟨#[]⟩]) Try.underlying30 hI0 hI1 a 0 0 [] (by simp) (fun j v hv => by simp at hv) ⟨b, off, none⟩ l.length c (cls l) (by rw [cls_len, hI2]) hnews (by omega) (by omega) (by rw [Nat.zero_add, nextslicecap_zero hlp, hI3]; omega)
            simpa using h
        refine ⟨some ⟨w.heap.size, 0, none⟩, grownCap w l.length 0 44, _, by simpa using hrun, .inr ⟨by omega, ?_⟩, ?_, ?_⟩
        · refine ⟨by simp [cls_len], .inr ⟨w.heap.size, _, _, rfl, hb, heap_alloc_new w.drew _, by simpa using hge, hcap, ?_, ?_⟩⟩
          · rw [Array.size_append, size_zeroCells]
            simp [Value.cells, cls_len]
            omega
          · have e := List.take_left' (l₂ := (Builtin.zeroCells (Value.agg #[.string ⟨#[]⟩, .string ⟨#[]⟩]).cells (grownCap w l.length 0 44 - l.length)).toList) (cls_len l)
            simpa using e
        · exact ⟨rfl, rfl, rfl, by simp, fun i hi _ => rows_old w.drew _ i hi⟩
        · right; right
          have : ¬ grownCap w l.length 0 44 = 0 := by omega
          simp [fpr, this]
      · have hc0 : ¬ c0 = 0 := by omega
        have hfp : (Value.slice A0 l0.length c0).ownBlock = fpr A0 c0 := by cases A0 <;> simp [fpr, hc0, Value.ownBlock]
        obtain ⟨v', w', hrun, r1, r2, _, r3⟩ := run_append_own_at (P := Try.prog) w base 30 ty 44 i0 (.agg #[.string ⟨#[]⟩, .string ⟨#[]⟩]) 2 32 Try.underlying30 hI0 hI1 hI2 hI3 rfl (by decide) _ l0.length (cls l0) h ⟨b, off, none⟩ l.length c (cls l) (cls_len l) hnews (one_cls l) (by unfold maxLen; omega) (by omega) hb
        obtain ⟨g, c', rfl, _, _⟩ := r1.form (by omega)
        have hc' : 0 < c' := by have := (own_cap r1 (by omega)).1; omega
        have hc'' : ¬ c' = 0 := by omega
        refine ⟨some ⟨g, 0, none⟩, c', w', hrun, .inr ⟨hc', by rw [List.length_append, cls_app]; exact r1⟩, by rw [← hfp]; exact r2, .inr ?_⟩
        rcases r3 with r3 | r3
        · left; rw [← hfp, ← r3]; simp [fpr, hc'', Value.ownBlock]
        · right; simpa [fpr, hc'', Value.ownBlock] using r3
theorem wpList_put_row (w : World) {ops : Array Oper} {rest : List Oper} {o : Oper} {a : Act} {Q : Exit → Act → World → Prop} (hg : o.guard = none) (s x : Operand)
    (hop : o.op = Op.call { callee := Callee.builtin Builtin.append, args := #[s, x], argTypes := #[30, 30] }) {base : Nat} (A0 : Option Addr) (n0 c0 : Nat) (l0 : List TT) (A : Option Addr) (m c : Nat) (l : List TT) (hs : a.eval s = .slice A0 n0 c0) (hx : a.eval x = .slice A m c)
    (h : Row w base A0 l0 c0) (hn0 : l0.length = n0) (hn : n0 ≤ 1000000) (hb : base ≤ w.heap.size) (hl : l.length = m) (hm : m ≤ 1000000) (hr : RdT w A l)
    (hK : ∀ A' c' w', Row w' base A' (l0 ++ l) c' → w.grownBy w' (fpr A0 c0) → (fpr A' c' = none ∨ fpr A' c' = fpr A0 c0 ∨ fpr A' c' = some w.heap.size) → wpList Try.prog ops Q rest (a.put o.dst (.slice A' (n0 + m) c')) w') :
    wpList Try.prog ops Q (o :: rest) a w := by
  subst hn0 hl
  refine wpList_plain hg fun K' hK' => ?_
  obtain ⟨A', c', w', hrun, r1, r2, r3⟩ := put_row h hn hb A c l hm hr o.type
  unfold Oper.wp
  simp [execOp, hop, resolve, invoke, builtin, hs, hx, hrun, Result.andThen]
  exact hK' _ _ (hK A' c' w' r1 r2 r3)
/-- Entries in new memory. -/
def OwnPost (w : World) (l : List TT) (e : Ending) (w' : World) : Prop := ∃ A c, e = .returned (.slice A l.length c) ∧ Row w' w.heap.size A l c ∧ Below w.heap.size w w'
end Go.Proofs.Ytdbcaiggliiacaa
