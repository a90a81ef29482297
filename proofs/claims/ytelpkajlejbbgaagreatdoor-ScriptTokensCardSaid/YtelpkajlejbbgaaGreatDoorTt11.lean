/- Rows of operations in memory, while they are made. -/
import Derived.Test.YtelpkajlejbbgaaGreatDoorTt09
set_option linter.unusedVariables false
set_option linter.unusedSimpArgs false
namespace Go.Proofs.YtelpkajlejbbgaaGreatDoor
open Go.RowKit Go.Maps
/-- A slice's words. -/
structure Hd where
  A : Option Addr
  n : Nat
  c : Nat
/-- An operation's cells. -/
structure OC where
  k : Int
  key : ByteArray
  too : ByteArray
  n : Int
  A : Option Addr
  l : Nat
  c : Nat
def EH : RE Hd where
  st := 24
  et := 43
  k := 1
  by_ := 24
  z := .slice none 0 0
  cs := fun h => [.slice h.A h.n h.c]
  kpos := by omega
  len := fun _ => rfl
  one := fun x u hu => by simp at hu; rcases hu with rfl; rfl
  und := Tryz.underlying24
  info := by kernel_rfl
  zk := rfl
  bmax := by omega
def EO : RE OC where
  st := 43
  et := 47
  k := 5
  by_ := 72
  z := .agg #[.int .u8 0, .string ⟨#[]⟩, .string ⟨#[]⟩, .int .i64 0, .slice none 0 0]
  cs := fun x => [.int .u8 x.k, .string x.key, .string x.too, .int .i64 x.n, .slice x.A x.l x.c]
  kpos := by omega
  len := fun _ => rfl
  one := fun x u hu => by simp at hu; rcases hu with rfl | rfl | rfl | rfl | rfl <;> rfl
  und := Tryz.underlying43
  info := by kernel_rfl
  zk := rfl
  bmax := by omega
/-- A row that is read, in a block that is none of these. -/
def RE.RdD {α : Type} (E : RE α) (w : World) (D : Nat → Prop) (A : Option Addr) (xs : List α) : Prop := xs = [] ∨ (E.Rd w A xs ∧ ∃ b off, A = some ⟨b, off, none⟩ ∧ b < w.heap.size ∧ ¬ D b)
theorem RE.RdD.rd {α : Type} {E : RE α} {w : World} {D : Nat → Prop} {A : Option Addr} {xs : List α} (h : E.RdD w D A xs) : E.Rd w A xs := by
  rcases h with h | ⟨h, _⟩
  · rw [h]; exact .inl rfl
  · exact h
theorem RE.RdD.chg {α : Type} {E : RE α} {w w' : World} {D F : Nat → Prop} {A : Option Addr} {xs : List α} (h : E.RdD w D A xs) (hc : Chg F w w') (hF : ∀ x, F x → D x) : E.RdD w' D A xs := by
  rcases h with h | ⟨h, b, off, e, hlt, hn⟩
  · exact .inl h
  · exact .inr ⟨h.chg hc (fun a ha hf => by rw [e] at ha; cases ha; exact hn (hF _ hf)), b, off, e, Nat.lt_of_lt_of_le hlt hc.size, hn⟩
theorem RE.RdD.dom {α : Type} {E : RE α} {w : World} {D D' : Nat → Prop} {A : Option Addr} {xs : List α} (h : E.RdD w D A xs) (hD : ∀ x, x < w.heap.size → D' x → D x) : E.RdD w D' A xs := by
  rcases h with h | ⟨h, b, off, e, hlt, hn⟩
  · exact .inl h
  · exact .inr ⟨h, b, off, e, hlt, fun hd => hn (hD b hlt hd)⟩
theorem RE.Row.rdD {α : Type} {E : RE α} {w : World} {D : Nat → Prop} {base : Nat} {A : Option Addr} {l : List α} {c : Nat} (h : E.Row w base A l c) (hD : ∀ x, RE.fp A c = some x → base ≤ x → x < w.heap.size → ¬ D x) : E.RdD w D A l := by
  rcases Nat.eq_zero_or_pos l.length with h0 | h0
  · exact .inl (List.eq_nil_of_length_eq_zero h0)
  · obtain ⟨b, e, h1, h2, h3⟩ := h.blk h0
    exact .inr ⟨h.rd, b, 0, e, h2, hD b h3 h1 h2⟩
structure OpR (w : World) (D : Nat → Prop) (x : OC) (o : OpV) : Prop where
  k : x.k = o.k
  key : x.key = o.key
  too : x.too = o.too
  n : x.n = o.n
  l : x.l = o.ms.length
  m : EM.RdD w D x.A o.ms
theorem OpR.chg {w w' : World} {D F : Nat → Prop} {x : OC} {o : OpV} (h : OpR w D x o) (hc : Chg F w w') (hF : ∀ x, F x → D x) : OpR w' D x o := ⟨h.k, h.key, h.too, h.n, h.l, h.m.chg hc hF⟩
theorem OpR.dom {w : World} {D D' : Nat → Prop} {x : OC} {o : OpV} (h : OpR w D x o) (hD : ∀ x, x < w.heap.size → D' x → D x) : OpR w D' x o := ⟨h.k, h.key, h.too, h.n, h.l, h.m.dom hD⟩
def OpsR (w : World) (D : Nat → Prop) (xs : List OC) (os : List OpV) : Prop := xs.length = os.length ∧ ∀ (i : Nat) x o, xs[i]? = some x → os[i]? = some o → OpR w D x o
theorem OpsR.chg {w w' : World} {D F : Nat → Prop} {xs : List OC} {os : List OpV} (h : OpsR w D xs os) (hc : Chg F w w') (hF : ∀ x, F x → D x) : OpsR w' D xs os := ⟨h.1, fun i x o h1 h2 => (h.2 i x o h1 h2).chg hc hF⟩
theorem OpsR.dom {w : World} {D D' : Nat → Prop} {xs : List OC} {os : List OpV} (h : OpsR w D xs os) (hD : ∀ x, x < w.heap.size → D' x → D x) : OpsR w D' xs os := ⟨h.1, fun i x o h1 h2 => (h.2 i x o h1 h2).dom hD⟩
theorem OpsR.nil {w : World} {D : Nat → Prop} : OpsR w D [] [] := ⟨rfl, fun i x o h => by simp at h⟩
theorem OpsR.snoc {w : World} {D : Nat → Prop} {xs : List OC} {os : List OpV} {x : OC} {o : OpV} (h : OpsR w D xs os) (hx : OpR w D x o) : OpsR w D (xs ++ [x]) (os ++ [o]) := by
  refine ⟨by simp [h.1], fun i y p h1 h2 => ?_⟩
  rcases Nat.lt_or_ge i xs.length with hi | hi
  · rw [List.getElem?_append_left hi] at h1
    rw [List.getElem?_append_left (by rw [← h.1]; exact hi)] at h2
    exact h.2 i y p h1 h2
  · rw [List.getElem?_append_right hi] at h1
    rw [List.getElem?_append_right (by rw [← h.1]; exact hi), ← h.1] at h2
    generalize i - xs.length = j at h1 h2
    cases j with
    | zero => simp at h1 h2; subst h1 h2; exact hx
    | succ j => simp at h1
def RowR (w : World) (D : Nat → Prop) (h : Hd) (os : List OpV) : Prop := ∃ xs, h.n = xs.length ∧ EO.RdD w D h.A xs ∧ OpsR w D xs os
theorem RowR.chg {w w' : World} {D F : Nat → Prop} {h : Hd} {os : List OpV} (hr : RowR w D h os) (hc : Chg F w w') (hF : ∀ x, F x → D x) : RowR w' D h os := by
  obtain ⟨xs, h1, h2, h3⟩ := hr
  exact ⟨xs, h1, h2.chg hc hF, h3.chg hc hF⟩
theorem RowR.dom {w : World} {D D' : Nat → Prop} {h : Hd} {os : List OpV} (hr : RowR w D h os) (hD : ∀ x, x < w.heap.size → D' x → D x) : RowR w D' h os := by
  obtain ⟨xs, h1, h2, h3⟩ := hr
  exact ⟨xs, h1, h2.dom hD, h3.dom hD⟩
def RowsR (w : World) (D : Nat → Prop) (hs : List Hd) (rows : List (List OpV)) : Prop := hs.length = rows.length ∧ ∀ (i : Nat) h r, hs[i]? = some h → rows[i]? = some r → RowR w D h r
theorem RowsR.chg {w w' : World} {D F : Nat → Prop} {hs : List Hd} {rows : List (List OpV)} (h : RowsR w D hs rows) (hc : Chg F w w') (hF : ∀ x, F x → D x) : RowsR w' D hs rows := ⟨h.1, fun i x o h1 h2 => (h.2 i x o h1 h2).chg hc hF⟩
theorem RowsR.dom {w : World} {D D' : Nat → Prop} {hs : List Hd} {rows : List (List OpV)} (h : RowsR w D hs rows) (hD : ∀ x, x < w.heap.size → D' x → D x) : RowsR w D' hs rows := ⟨h.1, fun i x o h1 h2 => (h.2 i x o h1 h2).dom hD⟩
theorem RowsR.nil {w : World} {D : Nat → Prop} : RowsR w D [] [] := ⟨rfl, fun i x o h => by simp at h⟩
theorem RowsR.snoc {w : World} {D : Nat → Prop} {hs : List Hd} {rows : List (List OpV)} {x : Hd} {o : List OpV} (h : RowsR w D hs rows) (hx : RowR w D x o) : RowsR w D (hs ++ [x]) (rows ++ [o]) := by
  refine ⟨by simp [h.1], fun i y p h1 h2 => ?_⟩
  rcases Nat.lt_or_ge i hs.length with hi | hi
  · rw [List.getElem?_append_left hi] at h1
    rw [List.getElem?_append_left (by rw [← h.1]; exact hi)] at h2
    exact h.2 i y p h1 h2
  · rw [List.getElem?_append_right hi] at h1
    rw [List.getElem?_append_right (by rw [← h.1]; exact hi), ← h.1] at h2
    generalize i - hs.length = j at h1 h2
    cases j with
    | zero => simp at h1 h2; subst h1 h2; exact hx
    | succ j => simp at h1
def DD (base : Nat) (a b : Option Nat) (x : Nat) : Prop := x < base ∨ a = some x ∨ b = some x
/-- Rows that are made: those ahead of the last one are read, the last one is written. -/
structure Good (w : World) (base : Nat) (H : Option Nat) (pre : List (List OpV)) (os : List OpV) (hp : List Hd) (A1 : Option Addr) (c1 : Nat) (xs : List OC) : Prop where
  row : EO.Row w base A1 xs c1
  ne : ∀ x, RE.fp A1 c1 = some x → H ≠ some x
  ops : OpsR w (DD base H (RE.fp A1 c1)) xs os
  rows : RowsR w (DD base H (RE.fp A1 c1)) hp pre
theorem Good.chg {w w' : World} {base g : Nat} {H : Option Nat} {pre : List (List OpV)} {os : List OpV} {hp : List Hd} {A1 : Option Addr} {c1 : Nat} {xs : List OC} (h : Good w base H pre os hp A1 c1 xs) (hc : Chg (fun x => x = g) w w') (hg : g < base) : Good w' base H pre os hp A1 c1 xs :=
  ⟨h.row.chgG hc hg, h.ne, h.ops.chg hc (fun x e => .inl (by omega)), h.rows.chg hc (fun x e => .inl (by omega))⟩
theorem Good.later {w w' : World} {base : Nat} {H : Option Nat} {pre : List (List OpV)} {os : List OpV} {hp : List Hd} {A1 : Option Addr} {c1 : Nat} {xs : List OC} (h : Good w base H pre os hp A1 c1 xs) (hb : Below w.heap.size w w') : Good w' base H pre os hp A1 c1 xs :=
  ⟨h.row.later hb, h.ne, h.ops.chg (Chg.of_below (D := fun _ => False) hb) (fun x e => e.elim), h.rows.chg (Chg.of_below (D := fun _ => False) hb) (fun x e => e.elim)⟩
/-- All rows, read. -/
theorem Good.all {w : World} {base : Nat} {H : Option Nat} {pre : List (List OpV)} {os : List OpV} {hp : List Hd} {A1 : Option Addr} {c1 : Nat} {xs : List OC} (h : Good w base H pre os hp A1 c1 xs) : RowsR w (DD base H none) (hp ++ [⟨A1, xs.length, c1⟩]) (pre ++ [os]) := by
  have hd : ∀ x, x < w.heap.size → DD base H none x → DD base H (RE.fp A1 c1) x := fun x _ e => by
    rcases e with e | e | e
    · exact .inl e
    · exact .inr (.inl e)
    · cases e
  refine RowsR.snoc (h.rows.dom hd) ⟨xs, rfl, h.row.rdD (fun x hx hb _ e => ?_), h.ops.dom hd⟩
  rcases e with e | e | e
  · omega
  · exact h.ne x hx e
  · cases e
theorem grown_chg {w w' : World} {f : Option Nat} (h : w.grownBy w' f) : Chg (fun x => f = some x) w w' := ⟨h.os, h.tape, h.output, h.size, fun g hg hn => h.block g hg (fun e => hn e.symm)⟩
/-- One row more. -/
theorem rows_more {w w' : World} {base : Nat} {H H' : Option Nat} {hs : List Hd} {rows : List (List OpV)} (h : RowsR w (DD base H none) hs rows) (hg : w.grownBy w' H) (hH : H' = none ∨ H' = H ∨ H' = some w.heap.size) : Good w' base H' rows [] hs none 0 [] := by
  have e0 : RE.fp none 0 = none := rfl
  refine ⟨.inl ⟨rfl, rfl⟩, (fun x hx => by rw [e0] at hx; cases hx), OpsR.nil, ?_⟩
  have h1 : RowsR w (fun x => DD base H none x ∨ DD base H' none x) hs rows := h.dom (fun x hx e => by
    rcases e with e | e
    · exact e
    · rcases e with e | e | e
      · exact .inl e
      · rcases hH with q | q | q
        · rw [q] at e; cases e
        · exact .inr (.inl (by rw [← q]; exact e))
        · rw [q] at e; have := Option.some.inj e; omega
      · cases e)
  have h2 := h1.chg (grown_chg hg) (fun x e => .inl (.inr (.inl e)))
  exact h2.dom (fun x _ e => .inr e)
theorem eh_all (hs : List Hd) : EH.all hs = hs.map (fun h => Value.slice h.A h.n h.c) := by
  induction hs with
  | nil => rfl
  | cons x xs ih => rw [RE.all_cons, ih]; rfl
theorem eh_heap {w : World} {base : Nat} {A : Option Addr} {hs : List Hd} {c : Nat} (h : EH.Row w base A hs c) {b : Nat} (hA : A = some ⟨b, 0, none⟩) (hl : 0 < hs.length) : ∃ cur, w.heap[b]? = some (.cells cur 43 (0, 0)) := by
  rcases h with ⟨h, _⟩ | ⟨h0, h⟩
  · rw [h] at hl; cases hl
  · rcases h.2 with ⟨h1, h2⟩ | ⟨g, cap, cur, e, hb, hg, rest⟩
    · omega
    · rw [hA] at e; cases e; exact ⟨cur, hg⟩
theorem eh_set {w : World} {base : Nat} {A : Option Addr} {hs : List Hd} {c : Nat} (h : EH.Row w base A hs c) {b : Nat} (hA : A = some ⟨b, 0, none⟩) {i : Nat} (hi : i < hs.length) (x : Hd) : EH.Row (w.setCell ⟨b, i, none⟩ (.slice x.A x.n x.c)) base A (hs.set i x) c := by
  rcases h with ⟨h, _⟩ | ⟨h0, h⟩
  · rw [h] at hi; cases hi
  · refine .inr ⟨h0, ?_⟩
    rw [List.length_set]
    rcases h with ⟨h1, h2⟩
    refine ⟨(by have q := EH.all_len (hs.set i x); rw [q, List.length_set]; first | rfl | done), ?_⟩
    rcases h2 with ⟨h2, h3⟩ | ⟨g, cap, cur, e, hb, hg, hn, hm, hs1, htk⟩
    · omega
    · rw [hA] at e
      injection e with e1 e2 e3
      injection e1 with e1
      injection e1 with e1 _
      subst e1
      refine .inr ⟨b, cap, cur.setIfInBounds i (.slice x.A x.n x.c), by rw [hA, e3], hb, hset hg _, hn, hm, by simpa using hs1, ?_⟩
      rw [Array.toList_setIfInBounds]
      have hk : EH.k = 1 := rfl
      rw [hk, Nat.mul_one] at htk ⊢
      rw [List.take_set, htk, eh_all, eh_all, List.map_set]
/-- One operation more in the last row. -/
theorem good_put {w w5 w6 : World} {base : Nat} {H : Option Nat} {pre : List (List OpV)} {os : List OpV} {hp : List Hd} {A1 A2 : Option Addr} {c1 c2 : Nat} {xs : List OC} {x : OC} {o : OpV} (h : Good w base H pre os hp A1 c1 xs) (hx : OpR w (DD base H (RE.fp A1 c1)) x o) (hg : w.grownBy w5 (RE.fp A1 c1)) (hf : RE.fp A2 c2 = none ∨ RE.fp A2 c2 = RE.fp A1 c1 ∨ RE.fp A2 c2 = some w.heap.size) (hr : EO.Row w5 base A2 (xs ++ [x]) c2) (hH : ∀ b, H = some b → b < w.heap.size) (h6 : Chg (fun y => H = some y) w5 w6) : Good w6 base H pre (os ++ [o]) hp A2 c2 (xs ++ [x]) := by
  have hne : ∀ y, RE.fp A2 c2 = some y → H ≠ some y := fun y hy e => by
    rcases hf with q | q | q
    · rw [q] at hy; cases hy
    · rw [q] at hy; exact h.ne y hy e
    · rw [q] at hy
      have h1 := Option.some.inj hy
      have := hH y e
      omega
  have hd1 : ∀ y, y < w.heap.size → (DD base H (RE.fp A1 c1) y ∨ DD base H (RE.fp A2 c2) y) → DD base H (RE.fp A1 c1) y := fun y hy e => by
    rcases e with e | e | e | e
    · exact e
    · exact .inl e
    · exact .inr (.inl e)
    · rcases hf with q | q | q
      · rw [q] at e; cases e
      · exact .inr (.inr (by rw [← q]; exact e))
      · rw [q] at e; have := Option.some.inj e; omega
  have c5 := grown_chg hg
  refine ⟨hr.chg h6 (fun y hy => hne y hy), hne, ?_, ?_⟩
  · have a1 := (h.ops.snoc hx).dom hd1
    have a2 := a1.chg c5 (fun y e => .inl (.inr (.inr e)))
    have a3 := a2.chg h6 (fun y e => .inr (.inr (.inl e)))
    exact a3.dom (fun y _ e => .inr e)
  · have a1 := h.rows.dom hd1
    have a2 := a1.chg c5 (fun y e => .inl (.inr (.inr e)))
    have a3 := a2.chg h6 (fun y e => .inr (.inr (.inl e)))
    exact a3.dom (fun y _ e => .inr e)
/-- What lines are, row by row, and the picks. -/
def addLast (acc : List (List OpV)) (o : OpV) : List (List OpV) := acc.dropLast ++ [(acc.getLast?.getD []) ++ [o]]
theorem addLast_eq (pre : List (List OpV)) (os : List OpV) (o : OpV) : addLast (pre ++ [os]) o = pre ++ [os ++ [o]] := by simp [addLast]
def wPicks : ByteArray := ⟨#[112, 105, 99, 107, 115]⟩
def wSess : ByteArray := ⟨#[115, 101, 115, 115, 105, 111, 110]⟩
def rowsG : Nat → ByteArray → Int → List (List OpV) → Except (Int × Int) ((List (List OpV) × List Int) × ByteArray × Int)
  | 0, _, _, _ => .error (0, 0)
  | f + 1, t, ln, acc => match nextF t with
    | none => .error (ln + 1, 5)
    | some (ws, u) =>
      if wdA ws 0 = wPicks then (match numsB (ws.drop 1) with
        | none => .error (ln + 1, 3)
        | some l => .ok ((acc, l), u, ln + 1))
      else if wdA ws 0 = wSess ∧ ws.length = 1 then rowsG f u (ln + 1) (acc ++ [[]])
      else if acc = [] then .error (ln + 1, 3)
      else match opF ws u (ln + 1) with
        | .error e => .error e
        | .ok (o, u2, l2) => rowsG f u2 l2 (addLast acc o)
theorem batch_le : ∀ (n : Nat) (t : ByteArray) (ln : Int) (acc l : List M) (u : ByteArray) (k : Int), batchF n t ln acc = .ok (l, u, k) → u.size ≤ t.size ∧ ln ≤ k ∧ k + u.size ≤ ln + t.size
  | 0, t, ln, acc, l, u, k, h => by unfold batchF at h; cases h; exact ⟨Nat.le_refl _, by omega, by omega⟩
  | n + 1, t, ln, acc, l, u, k, h => by
    unfold batchF at h
    cases hn : nextF t with
    | none => rw [hn] at h; cases h
    | some wu =>
      obtain ⟨ws, v⟩ := wu
      rw [hn] at h
      simp only at h
      cases hm : msgW ws with
      | none => rw [hm] at h; cases h
      | some m =>
        rw [hm] at h
        have hf := (next_facts hn).2.1
        have := batch_le n v (ln + 1) _ l u k h
        omega
theorem op_le {ws : List ByteArray} {t u : ByteArray} {ln k : Int} {o : OpV} (h : opF ws t ln = .ok (o, u, k)) : u.size ≤ t.size ∧ ln ≤ k ∧ k + u.size ≤ ln + t.size := by
  unfold opF at h
  split at h
  · cases hb : batchR (wdA ws 1) t ln with
    | error e => rw [hb] at h; cases h
    | ok q =>
      obtain ⟨ms, v, l⟩ := q
      rw [hb] at h
      simp only at h
      cases h
      unfold batchR at hb
      split at hb
      · cases hb
      · split at hb
        · cases hb
        · split at hb
          · cases hb
          · exact batch_le _ _ _ _ _ _ _ hb
  · cases ho : opW ws with
    | none => rw [ho] at h; cases h
    | some o2 => rw [ho] at h; cases h; omega
end Go.Proofs.YtelpkajlejbbgaaGreatDoor
