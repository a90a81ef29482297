/- Pivots: rows of texts in memory of their own, or empty ones without room. -/
import Derived.Test.YtngldfheneegcaaQ9
namespace Go.Proofs.Ytngldfheneegcaa
set_option linter.unusedSimpArgs false
open Go.RowKit Go.Maps
set_option linter.unusedVariables false

theorem own_cap {w : World} {base n c size : Nat} {e : TypeId} {A : Option Addr} {xs : List Value} (h : w.ownsRow base e size (.slice A n c) n xs) (hn : 0 < n) : n ≤ c ∧ c ≤ maxLen := by
  rcases h.2 with ⟨hv, h0⟩ | ⟨g, cap, cur, hv, _, _, h1, h2, _⟩
  · omega
  · cases hv; exact ⟨h1, h2⟩
theorem put_any {w : World} {base n : Nat} {v : Value} {xs : List Value} (h : w.ownsRow base 9 1 v n xs) (hn : n ≤ 1000000) (hb : base ≤ w.heap.size) (A : Option Addr) (m c : Nat) (l : List ByteArray) (hl : l.length = m) (hm : m ≤ 1000000) (hr : RdS w A l) (ty : TypeId) :
    ∃ v' w', (Builtin.append_ #[22, 22] ty #[v, .slice A m c]).run Try.prog w = .ok v' w' ∧ w'.ownsRow base 9 1 v' (n + m) (xs ++ l.map Value.string) ∧ w.grownBy w' v.ownBlock ∧ (v'.ownBlock = v.ownBlock ∨ v'.ownBlock = some w.heap.size) := by
  obtain ⟨i0, hI0, hI1, hI2, hI3⟩ := info_parts info9
  cases A with
  | none =>
    have h0 : l = [] := by
      rcases hr with h | ⟨b, off, e, _⟩
      · exact List.map_eq_nil_iff.1 h
      · cases e
    subst h0
    subst hl
    refine ⟨v, w, ?_, by simpa using h, ⟨rfl, rfl, rfl, Nat.le_refl _, fun _ _ _ => rfl⟩, .inl rfl⟩
    rcases h.2 with ⟨rfl, h0⟩ | ⟨g, cap, cur, rfl, _, _, hcap, _⟩
    · simp [Builtin.append_, run_underlying Try.underlying22, sizeOf, typeInfo, hI0, Builtin.lenOf, Builtin.firstCells]
    · simp [Builtin.append_, run_underlying Try.underlying22, sizeOf, typeInfo, hI0, Builtin.lenOf, Builtin.firstCells, hcap, storeCells]
  | some a =>
    have hnews : ∀ j u, (l.map Value.string)[j]? = some u → w.cell? (a.add j) = some u := by
      rcases hr with h | ⟨b, off, e, hlt, hc⟩
      · intro j u hu; rw [h] at hu; simp at hu
      · cases e; exact rds_news (.inr ⟨b, off, rfl, hlt, hc⟩)
    obtain ⟨v', w', hr', h2, h3, _, h5⟩ := run_append_own_at (P := Try.prog) w base 22 ty 9 i0 (.string ⟨#[]⟩) 1 16 Try.underlying22 hI0 hI1 hI2 hI3 rfl (by decide) v n xs h a m c (l.map Value.string) (by rw [List.length_map, hl, Nat.mul_one]) hnews (one_strs _) (by unfold maxLen; omega) (by omega) hb
    exact ⟨v', w', hr', h2, h3, h5⟩
/-- A row of texts in memory of its own, or an empty one that has no room. -/
def Row (w : World) (base : Nat) (A : Option Addr) (l : List ByteArray) (c : Nat) : Prop :=
  (l = [] ∧ c = 0) ∨ (0 < c ∧ w.ownsRow base 9 1 (.slice A l.length c) l.length (l.map Value.string))
/-- The block that it may write. -/
def fpr (A : Option Addr) (c : Nat) : Option Nat := if c = 0 then none else A.map (·.block)
theorem Row.rd {w : World} {base : Nat} {A : Option Addr} {l : List ByteArray} {c : Nat} (h : Row w base A l c) : RdS w A l := by
  rcases h with ⟨h, _⟩ | ⟨_, h⟩
  · subst h; exact .inl rfl
  · exact Rd.of_own h (by decide)
theorem Row.cap {w : World} {base : Nat} {A : Option Addr} {l : List ByteArray} {c : Nat} (h : Row w base A l c) : l.length ≤ c ∧ c ≤ maxLen := by
  rcases h with ⟨h, h2⟩ | ⟨h0, h⟩
  · subst h h2; exact ⟨Nat.le_refl _, Nat.zero_le _⟩
  · rcases h.2 with ⟨hv, hn⟩ | ⟨g, cap, cur, hv, _, _, h1, h2, _⟩
    · injection hv with e1 e2 e3; omega
    · cases hv; exact ⟨h1, h2⟩
theorem Row.kept {w w' : World} {base : Nat} {A : Option Addr} {l : List ByteArray} {c : Nat} {row : Option Nat} (h : Row w base A l c) (hg : w.grownBy w' row) (hne : fpr A c = none ∨ fpr A c ≠ row) : Row w' base A l c := by
  rcases h with h | ⟨h0, h⟩
  · exact .inl h
  · refine .inr ⟨h0, h.kept hg ?_⟩
    have hc : ¬ c = 0 := by omega
    cases A with
    | none => left; rfl
    | some a => right; rcases hne with hne | hne <;> simp [fpr, hc] at hne; simpa [Value.ownBlock] using hne
theorem Row.fp_lt {w : World} {base : Nat} {A : Option Addr} {l : List ByteArray} {c g : Nat} (h : Row w base A l c) (hf : fpr A c = some g) : base ≤ g ∧ g < w.heap.size := by
  rcases h with ⟨_, h⟩ | ⟨h0, h⟩
  · subst h; simp [fpr] at hf
  · have hc : ¬ c = 0 := by omega
    cases A with
    | none => simp [fpr, hc] at hf
    | some a => simp [fpr, hc] at hf; exact h.lt g (by rw [← hf]; rfl)
theorem Row.base {w : World} {base b2 : Nat} {A : Option Addr} {l : List ByteArray} {c : Nat} (h : Row w base A l c) (hb : b2 ≤ base) : Row w b2 A l c := by
  rcases h with h | ⟨h0, h⟩
  · exact .inl h
  · refine .inr ⟨h0, ?_⟩
    rcases h with ⟨h1, h2 | ⟨g, cap, cur, e1, e2, e3⟩⟩
    · exact ⟨h1, .inl h2⟩
    · exact ⟨h1, .inr ⟨g, cap, cur, e1, Nat.le_trans hb e2, e3⟩⟩

/-- A row is put behind a row. -/
theorem put_row {w : World} {base : Nat} {A0 : Option Addr} {c0 : Nat} {l0 : List ByteArray} (h : Row w base A0 l0 c0) (hn : l0.length ≤ 1000000) (hb : base ≤ w.heap.size) (A : Option Addr) (c : Nat) (l : List ByteArray) (hm : l.length ≤ 1000000) (hr : RdS w A l) (ty : TypeId) :
    ∃ A' c' w', (Builtin.append_ #[22, 22] ty #[.slice A0 l0.length c0, .slice A l.length c]).run Try.prog w = .ok (.slice A' (l0.length + l.length) c') w' ∧ Row w' base A' (l0 ++ l) c' ∧ w.grownBy w' (fpr A0 c0) ∧ (fpr A' c' = none ∨ fpr A' c' = fpr A0 c0 ∨ fpr A' c' = some w.heap.size) := by
  obtain ⟨i0, hI0, hI1, hI2, hI3⟩ := info_parts info9
  rcases h with ⟨rfl, rfl⟩ | ⟨h0, h⟩
  · by_cases hl : l = []
    · subst hl
      refine ⟨A0, 0, w, ?_, .inl ⟨rfl, rfl⟩, ⟨rfl, rfl, rfl, Nat.le_refl _, fun _ _ _ => rfl⟩, .inl (by simp [fpr])⟩
      exact put_nothing A0 A 0 0 c (Nat.le_refl _) ty w
    · have hlp : 0 < l.length := List.length_pos_iff.2 hl
      rcases hr with hr | ⟨b, off, rfl, hlt, hc⟩
      · exact absurd (List.map_eq_nil_iff.1 hr) hl
      · have hnews := rds_news (.inr ⟨b, off, rfl, hlt, hc⟩ : RdS w (some ⟨b, off, none⟩) l)
        have hcap := grownCap_le_maxLen w l.length 0 9 (by unfold maxLen; omega)
        have hge := grownCap_ge w l.length 0 9
        have hrun : (Builtin.append_ #[22, 22] ty #[.slice A0 0 0, .slice (some ⟨b, off, none⟩) l.length c]).run Try.prog w =
            .ok (.slice (some ⟨w.heap.size, 0, none⟩) l.length (grownCap w l.length 0 9)) (w.drew.alloc (.cells ((l.map Value.string).toArray ++ Builtin.zeroCells (Value.string ⟨#[]⟩).cells (grownCap w l.length 0 9 - l.length)) 9)) := by
          cases A0 with
          | none => exact run_append_nil (P := Try.prog) w 22 ty 9 i0 (.string ⟨#[]⟩) Try.underlying22 hI0 hI1 ⟨b, off, none⟩ l.length c (l.map Value.string) (by rw [List.length_map, hI2, Nat.mul_one]) hnews hlp (by omega) (by rw [hI3]; omega)
          | some a =>
            have h := run_append_grow (P := Try.prog) w 22 ty 9 i0 (.string ⟨#[]⟩) Try.underlying22 hI0 hI1 a 0 0 [] (by simp) (fun j v hv => by simp at hv) ⟨b, off, none⟩ l.length c (l.map Value.string) (by rw [List.length_map, hI2, Nat.mul_one]) hnews (by omega) (by omega) (by rw [Nat.zero_add, nextslicecap_zero hlp, hI3]; omega)
            simpa using h
        refine ⟨some ⟨w.heap.size, 0, none⟩, grownCap w l.length 0 9, _, by simpa using hrun, .inr ⟨by omega, ?_⟩, ?_, ?_⟩
        · refine ⟨by simp, .inr ⟨w.heap.size, _, _, rfl, hb, heap_alloc_new w.drew _, hge, hcap, ?_, ?_⟩⟩
          · rw [Array.size_append, size_zeroCells]
            simp [Value.cells]
            omega
          · simp
        · exact ⟨rfl, rfl, rfl, by simp, fun i hi _ => Rows_old' w.drew _ i hi⟩
        · right; right
          have : ¬ grownCap w l.length 0 9 = 0 := by omega
          simp [fpr, this]
  · have hc0 : ¬ c0 = 0 := by omega
    have hfp : (Value.slice A0 l0.length c0).ownBlock = fpr A0 c0 := by cases A0 <;> simp [fpr, hc0, Value.ownBlock]
    by_cases hl : l = []
    · subst hl
      have hcap := (Row.cap (.inr ⟨h0, h⟩ : Row w base A0 l0 c0)).1
      exact ⟨A0, c0, w, put_nothing A0 A l0.length c0 c hcap ty w, by rw [List.append_nil]; exact .inr ⟨h0, h⟩, ⟨rfl, rfl, rfl, Nat.le_refl _, fun _ _ _ => rfl⟩, .inr (.inl rfl)⟩
    · have hlp : 0 < l.length := List.length_pos_iff.2 hl
      obtain ⟨v', w', hrun, r1, r2, r3⟩ := put_any h hn hb A l.length c l rfl hm hr ty
      obtain ⟨g, c', rfl, _, _⟩ := r1.form (by omega)
      have hc' : 0 < c' := by have := (own_cap r1 (by omega)).1; omega
      have hc'' : ¬ c' = 0 := by omega
      refine ⟨some ⟨g, 0, none⟩, c', w', hrun, .inr ⟨hc', by rw [List.length_append, List.map_append]; exact r1⟩, by rw [← hfp]; exact r2, .inr ?_⟩
      rcases r3 with r3 | r3
      · left; rw [← hfp, ← r3]; simp [fpr, hc'', Value.ownBlock]
      · right; simpa [fpr, hc'', Value.ownBlock] using r3
where
  Rows_old' (w : World) (o : Obj) (i : Nat) (h : i < w.heap.size) : (w.alloc o).heap[i]? = w.heap[i]? := by
    show (w.heap.push o)[i]? = _
    rw [Array.getElem?_push, if_neg (by omega)]
theorem wpList_put_row (w : World) {ops : Array Oper} {rest : List Oper} {o : Oper} {a : Act} {Q : Exit → Act → World → Prop} (hg : o.guard = none) (s x : Operand)
    (hop : o.op = Op.call { callee := Callee.builtin Builtin.append, args := #[s, x], argTypes := #[22, 22] }) {base : Nat} (A0 : Option Addr) (n0 c0 : Nat) (l0 : List ByteArray) (A : Option Addr) (m c : Nat) (l : List ByteArray) (hs : a.eval s = .slice A0 n0 c0) (hx : a.eval x = .slice A m c)
    (h : Row w base A0 l0 c0) (hn0 : l0.length = n0) (hn : n0 ≤ 1000000) (hb : base ≤ w.heap.size) (hl : l.length = m) (hm : m ≤ 1000000) (hr : RdS w A l)
    (hK : ∀ A' c' w', Row w' base A' (l0 ++ l) c' → w.grownBy w' (fpr A0 c0) → (fpr A' c' = none ∨ fpr A' c' = fpr A0 c0 ∨ fpr A' c' = some w.heap.size) → wpList Try.prog ops Q rest (a.put o.dst (.slice A' (n0 + m) c')) w') :
    wpList Try.prog ops Q (o :: rest) a w := by
  subst hn0 hl
  refine wpList_plain hg fun K' hK' => ?_
  obtain ⟨A', c', w', hrun, r1, r2, r3⟩ := put_row h hn hb A c l hm hr o.type
  unfold Oper.wp
  simp [execOp, hop, resolve, invoke, builtin, hs, hx, hrun, Result.andThen]
  exact hK' _ _ (hK A' c' w' r1 r2 r3)
theorem step_put_row (w : World) {ops : Array Oper} {o : Oper} {a : Act} {K : Act → World → Prop} {Q : Exit → Act → World → Prop} {E : Prop} (hg : o.guard = none) (s x : Operand)
    (hop : o.op = Op.call { callee := Callee.builtin Builtin.append, args := #[s, x], argTypes := #[22, 22] }) {base : Nat} (A0 : Option Addr) (n0 c0 : Nat) (l0 : List ByteArray) (A : Option Addr) (m c : Nat) (l : List ByteArray) (hs : a.eval s = .slice A0 n0 c0) (hx : a.eval x = .slice A m c)
    (h : Row w base A0 l0 c0) (hn0 : l0.length = n0) (hn : n0 ≤ 1000000) (hb : base ≤ w.heap.size) (hl : l.length = m) (hm : m ≤ 1000000) (hr : RdS w A l)
    (hK : ∀ A' c' w', Row w' base A' (l0 ++ l) c' → w.grownBy w' (fpr A0 c0) → (fpr A' c' = none ∨ fpr A' c' = fpr A0 c0 ∨ fpr A' c' = some w.heap.size) → K (a.put o.dst (.slice A' (n0 + m) c')) w') :
    if Region.wanted o (yielded ops a.tmps) = true then Oper.wp Try.prog o a w K Q else E := by
  have hw : Region.wanted o (yielded ops a.tmps) = true := by simp [Region.wanted, hg]
  rw [if_pos hw]
  subst hn0 hl
  obtain ⟨A', c', w', hrun, r1, r2, r3⟩ := put_row h hn hb A c l hm hr o.type
  unfold Oper.wp
  simp [execOp, hop, resolve, invoke, builtin, hs, hx, hrun, Result.andThen]
  exact hK A' c' w' r1 r2 r3

/-- A row in new memory. -/
def OwnPost (w : World) (l : List ByteArray) (e : Ending) (w' : World) : Prop := ∃ A c, e = .returned (.slice A l.length c) ∧ Row w' w.heap.size A l c ∧ Below w.heap.size w w'
theorem own_row (A : Option Addr) (n c : Nat) (l : List ByteArray) (w : World) (hl : l.length = n) (hn : n ≤ 1000000) (hA : RdS w A l) :
    Calls Try.prog 33 #[.slice A n c] w (OwnPost w l) := by
  have HL := Lib.hid hl
  have HA := Lib.hid hA
  clear hl hA
  go_enter Try.func33, Try.ntmps33
  go_wp2_with (first
    | (at_builtin; refine wpList_put_row _ rfl (.tmp 4) (.tmp 5) rfl (base := w.heap.size) A 0 0 [] A n c l rfl rfl (.inl ⟨rfl, rfl⟩) rfl (by omega) (Nat.le_refl _) HL.out hn HA.out ?_; intro A' c' w' r1 r2 r3; have HR1 := Lib.hid r1; have HR2 := Lib.hid r2; clear r1 r2 r3)
    | fail)
  exact bodyPost_ret (v := .slice A' n c') (by simp [results, Try.results33, go_sem]) rfl ⟨A', c', by rw [HL.out], by simpa using HR1.out, (Below.refl _ _).grown HR2.out (Nat.le_refl _) (fun j hj => by simp [fpr] at hj)⟩
end Go.Proofs.Ytngldfheneegcaa
