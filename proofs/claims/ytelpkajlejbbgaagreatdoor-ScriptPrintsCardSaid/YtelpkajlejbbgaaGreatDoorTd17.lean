/- Texts of the proof, one behind the other. -/
import Derived.Test.YtelpkajlejbbgaaGreatDoorTd16
import Derived.Test.YtelpkajlejbbgaaGreatDoorTd09
import Derived.Test.YtelpkajlejbbgaaGreatDoorTd03
import Derived.Test.YtelpkajlejbbgaaGreatDoorTd12
import Derived.Lib.ItoaLen
set_option linter.unusedVariables false
set_option linter.unusedSimpArgs false
namespace Go.Proofs.YtelpkajlejbbgaaGreatDoor
open Go.RowKit Go.Maps
/-- A slice's words. -/
structure Hd where
  A : Option Addr
  n : Nat
  c : Nat
/-- An operation's cells. -/
structure OC where
  k : Int
  key : ByteArray
  too : ByteArray
  n : Int
  A : Option Addr
  l : Nat
  c : Nat
def EH : RE Hd where
  st := 24
  et := 43
  k := 1
  by_ := 24
  z := .slice none 0 0
  cs := fun h => [.slice h.A h.n h.c]
  kpos := by omega
  len := fun _ => rfl
  one := fun x u hu => by simp at hu; rcases hu with rfl; rfl
  und := Tryz.underlying24
  info := by kernel_rfl
  zk := rfl
  bmax := by omega
def EO : RE OC where
  st := 43
  et := 47
  k := 5
  by_ := 72
  z := .agg #[.int .u8 0, .string ⟨#[]⟩, .string ⟨#[]⟩, .int .i64 0, .slice none 0 0]
  cs := fun x => [.int .u8 x.k, .string x.key, .string x.too, .int .i64 x.n, .slice x.A x.l x.c]
  kpos := by omega
  len := fun _ => rfl
  one := fun x u hu => by simp at hu; rcases hu with rfl | rfl | rfl | rfl | rfl <;> rfl
  und := Tryz.underlying43
  info := by kernel_rfl
  zk := rfl
  bmax := by omega
/-- A row that is read, in a block that is none of these. -/
def RE.RdD {α : Type} (E : RE α) (w : World) (D : Nat → Prop) (A : Option Addr) (xs : List α) : Prop := xs = [] ∨ (E.Rd w A xs ∧ ∃ b off, A = some ⟨b, off, none⟩ ∧ b < w.heap.size ∧ ¬ D b)
theorem RE.RdD.rd {α : Type} {E : RE α} {w : World} {D : Nat → Prop} {A : Option Addr} {xs : List α} (h : E.RdD w D A xs) : E.Rd w A xs := by
  rcases h with h | ⟨h, _⟩
  · rw [h]; exact .inl rfl
  · exact h
theorem RE.RdD.chg {α : Type} {E : RE α} {w w' : World} {D F : Nat → Prop} {A : Option Addr} {xs : List α} (h : E.RdD w D A xs) (hc : Chg F w w') (hF : ∀ x, F x → D x) : E.RdD w' D A xs := by
  rcases h with h | ⟨h, b, off, e, hlt, hn⟩
  · exact .inl h
  · exact .inr ⟨h.chg hc (fun a ha hf => by rw [e] at ha; cases ha; exact hn (hF _ hf)), b, off, e, Nat.lt_of_lt_of_le hlt hc.size, hn⟩
theorem RE.RdD.dom {α : Type} {E : RE α} {w : World} {D D' : Nat → Prop} {A : Option Addr} {xs : List α} (h : E.RdD w D A xs) (hD : ∀ x, x < w.heap.size → D' x → D x) : E.RdD w D' A xs := by
  rcases h with h | ⟨h, b, off, e, hlt, hn⟩
  · exact .inl h
  · exact .inr ⟨h, b, off, e, hlt, fun hd => hn (hD b hlt hd)⟩
theorem RE.Row.rdD {α : Type} {E : RE α} {w : World} {D : Nat → Prop} {base : Nat} {A : Option Addr} {l : List α} {c : Nat} (h : E.Row w base A l c) (hD : ∀ x, RE.fp A c = some x → base ≤ x → x < w.heap.size → ¬ D x) : E.RdD w D A l := by
  rcases Nat.eq_zero_or_pos l.length with h0 | h0
  · exact .inl (List.eq_nil_of_length_eq_zero h0)
  · obtain ⟨b, e, h1, h2, h3⟩ := h.blk h0
    exact .inr ⟨h.rd, b, 0, e, h2, hD b h3 h1 h2⟩
structure OpR (w : World) (D : Nat → Prop) (x : OC) (o : OpV) : Prop where
  k : x.k = o.k
  key : x.key = o.key
  too : x.too = o.too
  n : x.n = o.n
  l : x.l = o.ms.length
  m : EM.RdD w D x.A o.ms
theorem OpR.chg {w w' : World} {D F : Nat → Prop} {x : OC} {o : OpV} (h : OpR w D x o) (hc : Chg F w w') (hF : ∀ x, F x → D x) : OpR w' D x o := ⟨h.k, h.key, h.too, h.n, h.l, h.m.chg hc hF⟩
theorem OpR.dom {w : World} {D D' : Nat → Prop} {x : OC} {o : OpV} (h : OpR w D x o) (hD : ∀ x, x < w.heap.size → D' x → D x) : OpR w D' x o := ⟨h.k, h.key, h.too, h.n, h.l, h.m.dom hD⟩
def OpsR (w : World) (D : Nat → Prop) (xs : List OC) (os : List OpV) : Prop := xs.length = os.length ∧ ∀ (i : Nat) x o, xs[i]? = some x → os[i]? = some o → OpR w D x o
theorem OpsR.chg {w w' : World} {D F : Nat → Prop} {xs : List OC} {os : List OpV} (h : OpsR w D xs os) (hc : Chg F w w') (hF : ∀ x, F x → D x) : OpsR w' D xs os := ⟨h.1, fun i x o h1 h2 => (h.2 i x o h1 h2).chg hc hF⟩
theorem OpsR.dom {w : World} {D D' : Nat → Prop} {xs : List OC} {os : List OpV} (h : OpsR w D xs os) (hD : ∀ x, x < w.heap.size → D' x → D x) : OpsR w D' xs os := ⟨h.1, fun i x o h1 h2 => (h.2 i x o h1 h2).dom hD⟩
theorem OpsR.nil {w : World} {D : Nat → Prop} : OpsR w D [] [] := ⟨rfl, fun i x o h => by simp at h⟩
theorem OpsR.snoc {w : World} {D : Nat → Prop} {xs : List OC} {os : List OpV} {x : OC} {o : OpV} (h : OpsR w D xs os) (hx : OpR w D x o) : OpsR w D (xs ++ [x]) (os ++ [o]) := by
  refine ⟨by simp [h.1], fun i y p h1 h2 => ?_⟩
  rcases Nat.lt_or_ge i xs.length with hi | hi
  · rw [List.getElem?_append_left hi] at h1
    rw [List.getElem?_append_left (by rw [← h.1]; exact hi)] at h2
    exact h.2 i y p h1 h2
  · rw [List.getElem?_append_right hi] at h1
    rw [List.getElem?_append_right (by rw [← h.1]; exact hi), ← h.1] at h2
    generalize i - xs.length = j at h1 h2
    cases j with
    | zero => simp at h1 h2; subst h1 h2; exact hx
    | succ j => simp at h1
def RowR (w : World) (D : Nat → Prop) (h : Hd) (os : List OpV) : Prop := ∃ xs, h.n = xs.length ∧ EO.RdD w D h.A xs ∧ OpsR w D xs os
theorem RowR.chg {w w' : World} {D F : Nat → Prop} {h : Hd} {os : List OpV} (hr : RowR w D h os) (hc : Chg F w w') (hF : ∀ x, F x → D x) : RowR w' D h os := by
  obtain ⟨xs, h1, h2, h3⟩ := hr
  exact ⟨xs, h1, h2.chg hc hF, h3.chg hc hF⟩
theorem RowR.dom {w : World} {D D' : Nat → Prop} {h : Hd} {os : List OpV} (hr : RowR w D h os) (hD : ∀ x, x < w.heap.size → D' x → D x) : RowR w D' h os := by
  obtain ⟨xs, h1, h2, h3⟩ := hr
  exact ⟨xs, h1, h2.dom hD, h3.dom hD⟩
def RowsR (w : World) (D : Nat → Prop) (hs : List Hd) (rows : List (List OpV)) : Prop := hs.length = rows.length ∧ ∀ (i : Nat) h r, hs[i]? = some h → rows[i]? = some r → RowR w D h r
theorem RowsR.chg {w w' : World} {D F : Nat → Prop} {hs : List Hd} {rows : List (List OpV)} (h : RowsR w D hs rows) (hc : Chg F w w') (hF : ∀ x, F x → D x) : RowsR w' D hs rows := ⟨h.1, fun i x o h1 h2 => (h.2 i x o h1 h2).chg hc hF⟩
theorem RowsR.dom {w : World} {D D' : Nat → Prop} {hs : List Hd} {rows : List (List OpV)} (h : RowsR w D hs rows) (hD : ∀ x, x < w.heap.size → D' x → D x) : RowsR w D' hs rows := ⟨h.1, fun i x o h1 h2 => (h.2 i x o h1 h2).dom hD⟩
theorem RowsR.nil {w : World} {D : Nat → Prop} : RowsR w D [] [] := ⟨rfl, fun i x o h => by simp at h⟩
theorem RowsR.snoc {w : World} {D : Nat → Prop} {hs : List Hd} {rows : List (List OpV)} {x : Hd} {o : List OpV} (h : RowsR w D hs rows) (hx : RowR w D x o) : RowsR w D (hs ++ [x]) (rows ++ [o]) := by
  refine ⟨by simp [h.1], fun i y p h1 h2 => ?_⟩
  rcases Nat.lt_or_ge i hs.length with hi | hi
  · rw [List.getElem?_append_left hi] at h1
    rw [List.getElem?_append_left (by rw [← h.1]; exact hi)] at h2
    exact h.2 i y p h1 h2
  · rw [List.getElem?_append_right hi] at h1
    rw [List.getElem?_append_right (by rw [← h.1]; exact hi), ← h.1] at h2
    generalize i - hs.length = j at h1 h2
    cases j with
    | zero => simp at h1 h2; subst h1 h2; exact hx
    | succ j => simp at h1
def DD (base : Nat) (a b : Option Nat) (x : Nat) : Prop := x < base ∨ a = some x ∨ b = some x
/-- Rows that are made: those ahead of the last one are read, the last one is written. -/
structure Good (w : World) (base : Nat) (H : Option Nat) (pre : List (List OpV)) (os : List OpV) (hp : List Hd) (A1 : Option Addr) (c1 : Nat) (xs : List OC) : Prop where
  row : EO.Row w base A1 xs c1
  ne : ∀ x, RE.fp A1 c1 = some x → H ≠ some x
  ops : OpsR w (DD base H (RE.fp A1 c1)) xs os
  rows : RowsR w (DD base H (RE.fp A1 c1)) hp pre
theorem Good.chg {w w' : World} {base g : Nat} {H : Option Nat} {pre : List (List OpV)} {os : List OpV} {hp : List Hd} {A1 : Option Addr} {c1 : Nat} {xs : List OC} (h : Good w base H pre os hp A1 c1 xs) (hc : Chg (fun x => x = g) w w') (hg : g < base) : Good w' base H pre os hp A1 c1 xs :=
  ⟨h.row.chgG hc hg, h.ne, h.ops.chg hc (fun x e => .inl (by omega)), h.rows.chg hc (fun x e => .inl (by omega))⟩
theorem Good.later {w w' : World} {base : Nat} {H : Option Nat} {pre : List (List OpV)} {os : List OpV} {hp : List Hd} {A1 : Option Addr} {c1 : Nat} {xs : List OC} (h : Good w base H pre os hp A1 c1 xs) (hb : Below w.heap.size w w') : Good w' base H pre os hp A1 c1 xs :=
  ⟨h.row.later hb, h.ne, h.ops.chg (Chg.of_below (D := fun _ => False) hb) (fun x e => e.elim), h.rows.chg (Chg.of_below (D := fun _ => False) hb) (fun x e => e.elim)⟩
/-- All rows, read. -/
theorem Good.all {w : World} {base : Nat} {H : Option Nat} {pre : List (List OpV)} {os : List OpV} {hp : List Hd} {A1 : Option Addr} {c1 : Nat} {xs : List OC} (h : Good w base H pre os hp A1 c1 xs) : RowsR w (DD base H none) (hp ++ [⟨A1, xs.length, c1⟩]) (pre ++ [os]) := by
  have hd : ∀ x, x < w.heap.size → DD base H none x → DD base H (RE.fp A1 c1) x := fun x _ e => by
    rcases e with e | e | e
    · exact .inl e
    · exact .inr (.inl e)
    · cases e
  refine RowsR.snoc (h.rows.dom hd) ⟨xs, rfl, h.row.rdD (fun x hx hb _ e => ?_), h.ops.dom hd⟩
  rcases e with e | e | e
  · omega
  · exact h.ne x hx e
  · cases e
theorem grown_chg {w w' : World} {f : Option Nat} (h : w.grownBy w' f) : Chg (fun x => f = some x) w w' := ⟨h.os, h.tape, h.output, h.size, fun g hg hn => h.block g hg (fun e => hn e.symm)⟩
/-- One row more. -/
theorem rows_more {w w' : World} {base : Nat} {H H' : Option Nat} {hs : List Hd} {rows : List (List OpV)} (h : RowsR w (DD base H none) hs rows) (hg : w.grownBy w' H) (hH : H' = none ∨ H' = H ∨ H' = some w.heap.size) : Good w' base H' rows [] hs none 0 [] := by
  have e0 : RE.fp none 0 = none := rfl
  refine ⟨.inl ⟨rfl, rfl⟩, (fun x hx => by rw [e0] at hx; cases hx), OpsR.nil, ?_⟩
  have h1 : RowsR w (fun x => DD base H none x ∨ DD base H' none x) hs rows := h.dom (fun x hx e => by
    rcases e with e | e
    · exact e
    · rcases e with e | e | e
      · exact .inl e
      · rcases hH with q | q | q
        · rw [q] at e; cases e
        · exact .inr (.inl (by rw [← q]; exact e))
        · rw [q] at e; have := Option.some.inj e; omega
      · cases e)
  have h2 := h1.chg (grown_chg hg) (fun x e => .inl (.inr (.inl e)))
  exact h2.dom (fun x _ e => .inr e)
theorem eh_all (hs : List Hd) : EH.all hs = hs.map (fun h => Value.slice h.A h.n h.c) := by
  induction hs with
  | nil => rfl
  | cons x xs ih => rw [RE.all_cons, ih]; rfl
theorem eh_heap {w : World} {base : Nat} {A : Option Addr} {hs : List Hd} {c : Nat} (h : EH.Row w base A hs c) {b : Nat} (hA : A = some ⟨b, 0, none⟩) (hl : 0 < hs.length) : ∃ cur, w.heap[b]? = some (.cells cur 43 (0, 0)) := by
  rcases h with ⟨h, _⟩ | ⟨h0, h⟩
  · rw [h] at hl; cases hl
  · rcases h.2 with ⟨h1, h2⟩ | ⟨g, cap, cur, e, hb, hg, rest⟩
    · omega
    · rw [hA] at e; cases e; exact ⟨cur, hg⟩
theorem eh_set {w : World} {base : Nat} {A : Option Addr} {hs : List Hd} {c : Nat} (h : EH.Row w base A hs c) {b : Nat} (hA : A = some ⟨b, 0, none⟩) {i : Nat} (hi : i < hs.length) (x : Hd) : EH.Row (w.setCell ⟨b, i, none⟩ (.slice x.A x.n x.c)) base A (hs.set i x) c := by
  rcases h with ⟨h, _⟩ | ⟨h0, h⟩
  · rw [h] at hi; cases hi
  · refine .inr ⟨h0, ?_⟩
    rw [List.length_set]
    rcases h with ⟨h1, h2⟩
    refine ⟨(by have q := EH.all_len (hs.set i x); rw [q, List.length_set]; first | rfl | done), ?_⟩
    rcases h2 with ⟨h2, h3⟩ | ⟨g, cap, cur, e, hb, hg, hn, hm, hs1, htk⟩
    · omega
    · rw [hA] at e
      injection e with e1 e2 e3
      injection e1 with e1
      injection e1 with e1 _
      subst e1
      refine .inr ⟨b, cap, cur.setIfInBounds i (.slice x.A x.n x.c), by rw [hA, e3], hb, hset hg _, hn, hm, by simpa using hs1, ?_⟩
      rw [Array.toList_setIfInBounds]
      have hk : EH.k = 1 := rfl
      rw [hk, Nat.mul_one] at htk ⊢
      rw [List.take_set, htk, eh_all, eh_all, List.map_set]
/-- One operation more in the last row. -/
theorem good_put {w w5 w6 : World} {base : Nat} {H : Option Nat} {pre : List (List OpV)} {os : List OpV} {hp : List Hd} {A1 A2 : Option Addr} {c1 c2 : Nat} {xs : List OC} {x : OC} {o : OpV} (h : Good w base H pre os hp A1 c1 xs) (hx : OpR w (DD base H (RE.fp A1 c1)) x o) (hg : w.grownBy w5 (RE.fp A1 c1)) (hf : RE.fp A2 c2 = none ∨ RE.fp A2 c2 = RE.fp A1 c1 ∨ RE.fp A2 c2 = some w.heap.size) (hr : EO.Row w5 base A2 (xs ++ [x]) c2) (hH : ∀ b, H = some b → b < w.heap.size) (h6 : Chg (fun y => H = some y) w5 w6) : Good w6 base H pre (os ++ [o]) hp A2 c2 (xs ++ [x]) := by
  have hne : ∀ y, RE.fp A2 c2 = some y → H ≠ some y := fun y hy e => by
    rcases hf with q | q | q
    · rw [q] at hy; cases hy
    · rw [q] at hy; exact h.ne y hy e
    · rw [q] at hy
      have h1 := Option.some.inj hy
      have := hH y e
      omega
  have hd1 : ∀ y, y < w.heap.size → (DD base H (RE.fp A1 c1) y ∨ DD base H (RE.fp A2 c2) y) → DD base H (RE.fp A1 c1) y := fun y hy e => by
    rcases e with e | e | e | e
    · exact e
    · exact .inl e
    · exact .inr (.inl e)
    · rcases hf with q | q | q
      · rw [q] at e; cases e
      · exact .inr (.inr (by rw [← q]; exact e))
      · rw [q] at e; have := Option.some.inj e; omega
  have c5 := grown_chg hg
  refine ⟨hr.chg h6 (fun y hy => hne y hy), hne, ?_, ?_⟩
  · have a1 := (h.ops.snoc hx).dom hd1
    have a2 := a1.chg c5 (fun y e => .inl (.inr (.inr e)))
    have a3 := a2.chg h6 (fun y e => .inr (.inr (.inl e)))
    exact a3.dom (fun y _ e => .inr e)
  · have a1 := h.rows.dom hd1
    have a2 := a1.chg c5 (fun y e => .inl (.inr (.inr e)))
    have a3 := a2.chg h6 (fun y e => .inr (.inr (.inl e)))
    exact a3.dom (fun y _ e => .inr e)
/-- What lines are, row by row, and the picks. -/
def addLast (acc : List (List OpV)) (o : OpV) : List (List OpV) := acc.dropLast ++ [(acc.getLast?.getD []) ++ [o]]
theorem addLast_eq (pre : List (List OpV)) (os : List OpV) (o : OpV) : addLast (pre ++ [os]) o = pre ++ [os ++ [o]] := by simp [addLast]
def wPicks : ByteArray := ⟨#[112, 105, 99, 107, 115]⟩
def wSess : ByteArray := ⟨#[115, 101, 115, 115, 105, 111, 110]⟩
def rowsG : Nat → ByteArray → Int → List (List OpV) → Except (Int × Int) ((List (List OpV) × List Int) × ByteArray × Int)
  | 0, _, _, _ => .error (0, 0)
  | f + 1, t, ln, acc => match nextF t with
    | none => .error (ln + 1, 5)
    | some (ws, u) =>
      if wdA ws 0 = wPicks then (match numsB (ws.drop 1) with
        | none => .error (ln + 1, 3)
        | some l => .ok ((acc, l), u, ln + 1))
      else if wdA ws 0 = wSess ∧ ws.length = 1 then rowsG f u (ln + 1) (acc ++ [[]])
      else if acc = [] then .error (ln + 1, 3)
      else match opF ws u (ln + 1) with
        | .error e => .error e
        | .ok (o, u2, l2) => rowsG f u2 l2 (addLast acc o)
theorem batch_le : ∀ (n : Nat) (t : ByteArray) (ln : Int) (acc l : List M) (u : ByteArray) (k : Int), batchF n t ln acc = .ok (l, u, k) → u.size ≤ t.size ∧ ln ≤ k ∧ k + u.size ≤ ln + t.size
  | 0, t, ln, acc, l, u, k, h => by unfold batchF at h; cases h; exact ⟨Nat.le_refl _, by omega, by omega⟩
  | n + 1, t, ln, acc, l, u, k, h => by
    unfold batchF at h
    cases hn : nextF t with
    | none => rw [hn] at h; cases h
    | some wu =>
      obtain ⟨ws, v⟩ := wu
      rw [hn] at h
      simp only at h
      cases hm : msgW ws with
      | none => rw [hm] at h; cases h
      | some m =>
        rw [hm] at h
        have hf := (next_facts hn).2.1
        have := batch_le n v (ln + 1) _ l u k h
        omega
theorem op_le {ws : List ByteArray} {t u : ByteArray} {ln k : Int} {o : OpV} (h : opF ws t ln = .ok (o, u, k)) : u.size ≤ t.size ∧ ln ≤ k ∧ k + u.size ≤ ln + t.size := by
  unfold opF at h
  split at h
  · cases hb : batchR (wdA ws 1) t ln with
    | error e => rw [hb] at h; cases h
    | ok q =>
      obtain ⟨ms, v, l⟩ := q
      rw [hb] at h
      simp only at h
      cases h
      unfold batchR at hb
      split at hb
      · cases hb
      · split at hb
        · cases hb
        · split at hb
          · cases hb
          · exact batch_le _ _ _ _ _ _ _ hb
  · cases ho : opW ws with
    | none => rw [ho] at h; cases h
    | some o2 => rw [ho] at h; cases h; omega
end Go.Proofs.YtelpkajlejbbgaaGreatDoor
namespace Go.Proofs.YtelpkajlejbbgaaGreatDoor
open Go.RowKit Go.Maps
/-- A message, an operation, of good form. -/
def MFm (m : M) : Prop := m.q = 0 ∧ mF m.k m.dl 2147483647 2147483647 m.key m.too m.val ≠ 3
structure OFm (o : OpV) : Prop where
  n : inR o.n = true
  p : opureB o.k o.n o.key o.too o.ms.length = true
  ms : ∀ m ∈ o.ms, MFm m
theorem fe_fm : ∀ (l : List M), (∀ m ∈ l, MFm m) → fe 2147483647 2147483647 l ≠ 3
  | [], _ => by unfold fe; decide
  | m :: l, h => by
    unfold fe
    split
    · exact fe_fm l (fun x hx => h x (List.mem_cons_of_mem _ hx))
    · exact (h m (by simp)).2
theorem ask_fm {o : OpV} (h : OFm o) : askF o.k o.n 2147483647 2147483647 2147483647 o.key o.too o.ms.length o.ms ≠ 3 := by
  have h3 := fe_fm o.ms h.ms
  unfold askF
  rw [if_neg (by rw [h.p]; decide)]
  have ar : ∀ k : Int, arF k o.n 2147483647 2147483647 o.key o.too ≠ 3 := by
    intro k
    unfold arF
    repeat' split
    all_goals decide
  split
  · split <;> decide
  split
  · unfold abF
    split
    · decide
    · split
      · exact h3
      · rename_i hq
        exfalso
        apply hq
        rw [List.all_eq_true]
        intro m hm
        simpa using (h.ms m hm).1
  split
  · exact ar 3
  split
  · exact ar 4
  · decide
theorem msl_of {w : World} {A : Option Addr} {l : List M} (h : EM.Rd w A l) : MsL w w.heap.size A l := by
  rcases h with h | ⟨b, off, e, hlt, hc⟩
  · exact .inl (EM.all_empty h)
  · refine .inr ⟨b, off, e, hlt, fun j hj => ?_⟩
    have hx : l[j]? = some l[j] := List.getElem?_eq_getElem hj
    have q : ∀ i u, (EM.cs l[j])[i]? = some u → w.cell? ⟨b, off + j * 6 + i, none⟩ = some u := fun i u hu => by
      have := hc _ u (EM.all_get hx hu)
      rw [← Nat.add_assoc] at this
      exact this
    exact ⟨q 0 _ rfl, q 1 _ rfl, q 2 _ rfl, q 3 _ rfl, q 4 _ rfl, q 5 _ rfl⟩
theorem gw_cells {w : World} (h : GW w) : w.cell? ⟨0, 0, none⟩ = some (.int .i64 2147483647) ∧ w.cell? ⟨0, 1, none⟩ = some (.int .i64 2147483647) ∧ w.cell? ⟨0, 2, none⟩ = some (.int .i64 0) ∧ w.cell? ⟨0, 3, none⟩ = some (.int .i64 0) ∧ w.cell? ⟨0, 4, none⟩ = some (.int .i64 0) ∧ w.cell? ⟨0, 5, none⟩ = some (.int .i64 0) ∧ w.cell? ⟨0, 6, none⟩ = some (.int .i64 0) ∧ w.cell? ⟨0, 7, none⟩ = some (.int .i64 0) ∧ w.cell? ⟨0, 8, none⟩ = some (.int .i64 2147483647) :=
  ⟨h.an 0 _ rfl, h.an 1 _ rfl, h.an 2 _ rfl, h.an 3 _ rfl, h.an 4 _ rfl, h.an 5 _ rfl, h.an 6 _ rfl, h.an 7 _ rfl, h.an 8 _ rfl⟩
set_option maxHeartbeats 4000000 in
set_option maxRecDepth 100000 in
theorem formed_ok (o : OpV) (A : Option Addr) (c : Nat) (w : World) (hg : GW w) (ho : OFm o) (hA : EM.Rd w A o.ms) (hm : o.ms.length ≤ 900000) :
    Calls Tryz.prog 48 #[o.v A c] w fun e w' => e = .returned (.bool true) ∧ Below w.heap.size w w' := by
  have hask := ask_fm ho
  obtain ⟨hn, hp, hms⟩ := ho
  obtain ⟨k, key, too, n, ms⟩ := o
  simp only at hask hn hp hms hA hm
  unfold OpV.v
  simp only
  obtain ⟨m, hml⟩ : ∃ m, ms.length = m := ⟨_, rfl⟩
  rw [hml] at hm hask ⊢
  obtain ⟨a, ha⟩ : ∃ a, askF k n 2147483647 2147483647 2147483647 key too m ms = a := ⟨_, rfl⟩
  rw [ha] at hask
  have AK : ∀ W, EM.Rd W A ms → Calls Tryz.prog 31 #[.agg #[.int .u8 k, .string key, .string too, .int .i64 n, .slice A m c], cfg 2147483647 2147483647 0 0 0 0 0 0 2147483647] W fun e w' => e = .returned (.int .i64 a) ∧ Below W.heap.size W w' := fun W hW => by
    have := ask_any k n 2147483647 2147483647 0 0 0 0 0 0 2147483647 key too A m c ms W hml (msl_of hW)
    rw [ha] at this
    exact this
  have HAK := Lib.hid AK
  have HR : Hid (∀ W, Calls Tryz.prog 47 #[.int .i64 n] W fun e w' => e = .returned (.bool true) ∧ w' = W) := Lib.hid (fun W => by have := inR_any n W; rw [hn] at this; exact this)
  have HG := Lib.hid (GB.of hg)
  have HM := Lib.hid (And.intro hml hm)
  have HA := Lib.hid hA
  have HMS := Lib.hid hms
  have HK3 := Lib.hid hask
  have h0 : 0 < w.heap.size := World.block_lt_of_cell? w _ (gw_cells hg).1
  have H0 := Lib.hid h0
  clear AK hn hp hms hA hg ha hml hm hask h0
  obtain ⟨W0, hW0⟩ : ∃ W0, W0 = w.alloc (.cells #[.int .u8 k, .string key, .string too, .int .i64 n, .slice A m c] 47) := ⟨_, rfl⟩
  have B0 := Lib.hid (show Below w.heap.size w W0 by rw [hW0]; exact alb w _)
  have Z0 := Lib.hid (show W0.heap[w.heap.size]? = some (.cells #[.int .u8 k, .string key, .string too, .int .i64 n, .slice A m c] 47) by rw [hW0]; exact heap_alloc_new w _)
  have HS := Lib.hid (show W0.heap.size = w.heap.size + 1 by rw [hW0]; simp)
  obtain ⟨c0, c1, c2, c3, c4⟩ := cells5 Z0.out
  go_enter Tryz.func48, Tryz.ntmps48
  go_upto_region 1 with fail
  rw [← hW0]
  clear hW0
  go_upto_region 2 with fail
  clear c0 c1 c2 c3 c4
  go_loopw [8] (fun iv wr => ∃ i : Nat, i ≤ m ∧ iv = .int .i64 i ∧ Below W0.heap.size W0 wr) (fun iv _ => m - (intOf iv).toNat)
  case atStart => exact ⟨0, by omega, rfl, Below.refl _ _⟩
  case round =>
    obtain ⟨i, hi, rfl, hbw⟩ := hrel
    have HBr := Lib.hid hbw
    have HB := Lib.hid (bel_trans B0.out hbw)
    clear hbw
    have hNN := HM.out
    by_cases h8 : i < m
    · have hk1 : (i : Int) < (m : Int) := by omega
      have hk0 : (0 : Int) ≤ (i : Int) := by omega
      have WK : IntKind.i64.wrap ((i : Int) + 1) = (i : Int) + 1 := IntWalk.i64_in _ (by omega)
      obtain ⟨x, hx⟩ : ∃ x, ms[i]? = some x := ⟨_, List.getElem?_eq_getElem (by omega)⟩
      obtain ⟨b2, off, rfl, hlt, hc⟩ := (HA.out.later HB.out).get hx
      obtain ⟨hq, hf⟩ := HMS.out x (List.mem_of_getElem? hx)
      obtain ⟨mk, mq, mkey, mtoo, mval, mdl⟩ := x
      simp only at hq hf
      subst hq
      have g0 : wr.cell? ⟨b2, off + i * 6, none⟩ = some (.int .u8 mk) := hc 0 _ rfl
      have g1 : wr.cell? ⟨b2, off + i * 6 + 1, none⟩ = some (.int .i64 0) := hc 1 _ rfl
      have g2 : wr.cell? ⟨b2, off + i * 6 + 2, none⟩ = some (.string mkey) := hc 2 _ rfl
      have g3 : wr.cell? ⟨b2, off + i * 6 + 3, none⟩ = some (.string mtoo) := hc 3 _ rfl
      have g4 : wr.cell? ⟨b2, off + i * 6 + 4, none⟩ = some (.string mval) := hc 4 _ rfl
      have g5 : wr.cell? ⟨b2, off + i * 6 + 5, none⟩ = some (.int .u64 mdl) := hc 5 _ rfl
      obtain ⟨z0, z1, z2, z3, z4, z5, z6, z7, z8⟩ := gw_cells (HG.out.later HB.out).gw
      obtain ⟨v, hv⟩ : ∃ v, mF mk mdl 2147483647 2147483647 mkey mtoo mval = v := ⟨_, rfl⟩
      have hw0 : 0 < wr.heap.size := Nat.lt_of_lt_of_le H0.out (show w.heap.size ≤ wr.heap.size from HB.out.size)
      have HC : Hid (∀ W, Calls Tryz.prog 69 #[.agg #[.int .u8 mk, .int .i64 0, .string mkey, .string mtoo, .string mval, .int .u64 mdl], cfg 2147483647 2147483647 0 0 0 0 0 0 2147483647] W fun e w' => e = .returned (.int .i64 v) ∧ Below W.heap.size W w') := Lib.hid (fun W => by
        have := mchk_any mk 0 mdl 2147483647 2147483647 0 0 0 0 0 0 2147483647 mkey mtoo mval W
        rw [hv] at this
        exact this)
      have hv3 : ¬ v = 3 := by rw [← hv]; exact hf
      clear hx hNN hc hf hv
      go_wp2_with (first
        | (go_at_call 69; ((refine (HC.out _).mono ?_); rintro e w1 ⟨rfl, b1⟩; have B1 := Lib.hid (HBr.out.trans ((alb wr _).trans (b1.mono (alb wr _).size) |>.mono HBr.out.size)); clear b1))
        | fail)
      exact ⟨⟨i + 1, by omega, rfl, B1.out⟩, by simp [intOf]; omega⟩
    · have hke : i = m := by omega
      subst hke
      have hk1 : ¬ (i : Int) < (i : Int) := by omega
      have hw0 : 0 < wr.heap.size := Nat.lt_of_lt_of_le H0.out (show w.heap.size ≤ wr.heap.size from HB.out.size)
      have hkv := HK3.out
      obtain ⟨z0, z1, z2, z3, z4, z5, z6, z7, z8⟩ := gw_cells (HG.out.later HB.out).gw
      obtain ⟨c0, c1, c2, c3, c4⟩ := cells5 (keep_bel HBr.out Z0.out)
      clear hNN
      go_wp2_with (first
        | (go_at_call 47; ((refine (HR.out _).mono ?_); rintro e w1 ⟨rfl, hw1⟩; (have hw2 := hw1.symm; subst hw2; clear hw1)))
        | (go_at_call 31; ((refine (HAK.out _ (HA.out.later HB.out)).mono ?_); rintro e w1 ⟨rfl, b1⟩; have B1 := Lib.hid (bel_trans HB.out b1); clear b1))
        | fail)
      have hb : (a != 3) = true := by simpa using hkv
      refine bodyPost_ret (v := .bool (a != 3)) (by simp [results, Tryz.results48, go_sem]) rfl ⟨by rw [hb], B1.out⟩
end Go.Proofs.YtelpkajlejbbgaaGreatDoor
namespace Go.Proofs.YtelpkajlejbbgaaGreatDoor
open Go.RowKit Go.Maps
/-- Words in a block. -/
def WB (w : World) (bw : Nat) (ws : List ByteArray) : Prop := ∃ cs, w.heap[bw]? = some (.cells cs 9 (0, 0)) ∧ ∀ (i : Nat) x, ws[i]? = some x → cs[i]? = some (.string x)
theorem WB.cell {w : World} {bw : Nat} {ws : List ByteArray} (h : WB w bw ws) {i : Nat} {x : ByteArray} (hx : ws[i]? = some x) : w.cell? ⟨bw, i, none⟩ = some (.string x) := by
  obtain ⟨cs, h1, h2⟩ := h
  exact cellh h1 (h2 i x hx)
theorem WB.lt {w : World} {bw : Nat} {ws : List ByteArray} (h : WB w bw ws) : bw < w.heap.size := by
  obtain ⟨cs, h1, h2⟩ := h
  exact heap_lt h1
theorem WB.later {w w' : World} {bw : Nat} {ws : List ByteArray} (h : WB w bw ws) (b : Below w.heap.size w w') : WB w' bw ws := by
  obtain ⟨cs, h1, h2⟩ := h
  exact ⟨cs, keep_bel b h1, h2⟩
theorem ok_keep {w w' : World} {b k : Nat} {cs : Array Value} {t : TypeId} {fz : Nat × Nat} (h : Lib.OthersKept 5 (some b) w w') (hk : w.heap[k]? = some (.cells cs t fz)) (hb : k ≠ b) (ht : t ≠ 5) : w'.heap[k]? = some (.cells cs t fz) :=
  h k _ hk (fun e => hb (Option.some.inj e)) (fun c fz' e => by cases e; exact ht rfl)
theorem WB.others {w w' : World} {b bw : Nat} {ws : List ByteArray} (h : WB w bw ws) (o : Lib.OthersKept 5 (some b) w w') (hb : bw ≠ b) : WB w' bw ws := by
  obtain ⟨cs, h1, h2⟩ := h
  exact ⟨cs, ok_keep o h1 hb (by decide), h2⟩
def lineL (ws : List ByteArray) : List UInt8 := Lib.join (ws.map (·.data.toList)) [32] ++ [10]
def partL (ws : List ByteArray) (k : Nat) : List UInt8 := Lib.join ((ws.take k).map (·.data.toList)) [32]
theorem join_snoc : ∀ (ps : List (List UInt8)) (q : List UInt8), ps ≠ [] → Lib.join (ps ++ [q]) [32] = Lib.join ps [32] ++ 32 :: q
  | [], q, h => absurd rfl h
  | [p], q, _ => by
    show Lib.join (p :: q :: []) [32] = _
    rw [join_two, Lib.join_one, Lib.join_one]
  | p :: p2 :: ps, q, _ => by
    show Lib.join (p :: p2 :: (ps ++ [q])) [32] = _
    rw [join_two, join_two]
    have ih := join_snoc (p2 :: ps) q (by simp)
    rw [show p2 :: (ps ++ [q]) = (p2 :: ps) ++ [q] from rfl, ih]
    simp
theorem part_zero (ws : List ByteArray) : partL ws 0 = [] := rfl
theorem part_one {ws : List ByteArray} {x : ByteArray} (h : ws[0]? = some x) : partL ws 1 = x.data.toList := by
  unfold partL
  have e : ws.take 1 = [x] := by rw [List.take_add_one, h]; rfl
  rw [e]
  exact Lib.join_one _ _
theorem part_next {ws : List ByteArray} {k : Nat} {x : ByteArray} (hk : 0 < k) (h : ws[k]? = some x) : partL ws (k + 1) = (partL ws k ++ [32]) ++ x.data.toList := by
  unfold partL
  have hlt := (List.getElem?_eq_some_iff.1 h).1
  rw [List.take_add_one, h]
  show Lib.join ((ws.take k ++ [x]).map _) [32] = _
  rw [List.map_append]
  show Lib.join ((ws.take k).map _ ++ [x.data.toList]) [32] = _
  have hl : ((ws.take k).map (fun x : ByteArray => x.data.toList)).length = k := by rw [List.length_map, List.length_take]; omega
  rw [join_snoc _ _ (by intro e; rw [e] at hl; simp at hl; omega)]
  simp
theorem join_len (m : Nat) : ∀ (ps : List (List UInt8)), (∀ p ∈ ps, p.length ≤ m) → (Lib.join ps [32]).length ≤ ps.length * (m + 1)
  | [], _ => by simp [Lib.join, List.intercalate]
  | [p], h => by rw [Lib.join_one]; have := h p (by simp); simp; omega
  | p :: q :: ps, h => by
    rw [join_two, List.length_append, List.length_cons]
    have h1 := h p (by simp)
    have h2 := join_len m (q :: ps) (fun y hy => h y (by simp at hy ⊢; right; exact hy))
    have e : (p :: q :: ps).length * (m + 1) = (q :: ps).length * (m + 1) + (m + 1) := by rw [List.length_cons (a := p), Nat.succ_mul]
    rw [e]
    simp only [List.length_append, List.length_cons, List.length_nil] at h2 ⊢
    omega
theorem part_len {ws : List ByteArray} {m : Nat} (h : ∀ x ∈ ws, x.size ≤ m) (k : Nat) : (partL ws k).length ≤ ws.length * (m + 1) := by
  unfold partL
  have h1 := join_len m ((ws.take k).map (·.data.toList)) (fun p hp => by
    obtain ⟨x, hx, rfl⟩ := List.mem_map.1 hp
    rw [ba_len]
    exact h x (List.mem_of_mem_take hx))
  refine Nat.le_trans h1 (Nat.mul_le_mul_right _ ?_)
  rw [List.length_map, List.length_take]
  exact Nat.min_le_right _ _
/-- What a printer's call does. -/
structure PK (B b : Nat) (l : List UInt8) (w w' : World) : Prop where
  d : Bd 59 B b l w'
  bl : Below B w w'
  o : Lib.OthersKept 5 (some b) w w'
theorem PK.then {B b : Nat} {l l2 : List UInt8} {w w1 w2 : World} (h : PK B b l w w1) (k : PK B b l2 w1 w2) : PK B b l2 w w2 := ⟨k.d, h.bl.trans k.bl, h.o.trans k.o⟩
theorem ok_bel {b : Nat} {w w' : World} (h : Below w.heap.size w w') : Lib.OthersKept 5 (some b) w w' := fun k o hk _ _ => keep_bel h hk
theorem PK.later {B b : Nat} {l : List UInt8} {w w1 w2 : World} (h : PK B b l w w1) (k : Below w1.heap.size w1 w2) (hB : B ≤ w1.heap.size) : PK B b l w w2 := ⟨h.d.bel k, h.bl.trans (k.mono hB), h.o.trans (ok_bel k)⟩
theorem PK.start {B b : Nat} {l : List UInt8} {w : World} (h : Bd 59 B b l w) : PK B b l w w := ⟨h, Below.refl _ _, Lib.OthersKept.refl _ _ _⟩
theorem mul_le_big {n m : Nat} (h1 : n ≤ 1000000) (h2 : m ≤ 2000001) : n * m ≤ 2000001000000 := Nat.le_trans (Nat.mul_le_mul h1 h2) (by decide)
set_option maxHeartbeats 2000000 in
set_option maxRecDepth 100000 in
theorem line_any (B b bw n c : Nat) (ws : List ByteArray) (l : List UInt8) (w : World) (hn : ws.length = n) (h0 : n ≤ 1000000) (hW : WB w bw ws) (hD : Bd 59 B b l w) (hBw : B ≤ w.heap.size) (hl : l.length ≤ 1048576) (hs : ∀ x ∈ ws, x.size ≤ 2000000) (hb : bw ≠ b) :
    Calls Tryz.prog 24 #[.pointer (some ⟨b, 0, none⟩), .slice (some ⟨bw, 0, none⟩) n c] w fun e w' => e = .returned (.tuple #[]) ∧ PK B b (l ++ lineL ws) w w' := by
  have LEN := Lib.hid (fun k => (show (l ++ partL ws k).length ≤ 3000000000000 by
    rw [List.length_append]
    have := part_len hs k
    have := mul_le_big (n := ws.length) (m := 2000000 + 1) (by omega) (by omega)
    omega))
  have HN := Lib.hid (And.intro hn h0)
  have HW := Lib.hid hW
  have HS := Lib.hid hs
  have HB := Lib.hid (And.intro hb hBw)
  have LA := Lib.hid (len_any B b l w hD)
  have HD := Lib.hid (PK.start hD)
  have k20 : ¬ (1048576 : Int) < (l.length : Int) := by omega
  clear hn h0 hW hD hBw hl hs hb
  go_enter Tryz.func24, Tryz.ntmps24
  go_upto_region 2 with (first
    | (go_at_call 26; ((with_reducible refine LA.out.mono ?_); rintro e w1 ⟨rfl, hw⟩; (have hw2 := hw.symm; subst hw2; clear hw)))
    | fail)
  go_loopw [13] (fun iv wr => ∃ k : Nat, k ≤ n ∧ iv = .int .i64 k ∧ PK B b (l ++ partL ws k) w wr) (fun iv _ => n - (intOf iv).toNat)
  case atStart => exact ⟨0, by omega, rfl, by rw [part_zero, List.append_nil]; exact HD.out⟩
  case round =>
    obtain ⟨k, hk, rfl, hpk⟩ := hrel
    have HP := Lib.hid hpk
    clear hpk
    have HBW := Lib.hid (show B ≤ wr.heap.size from Nat.le_trans HB.out.2 HP.out.bl.size)
    by_cases h8 : k < n
    · have hk1 : (k : Int) < (n : Int) := by omega
      have hk0 : (0 : Int) ≤ (k : Int) := by omega
      have hNN := HN.out
      have WK : IntKind.i64.wrap ((k : Int) + 1) = (k : Int) + 1 := IntWalk.i64_in _ (by omega)
      obtain ⟨x, hx⟩ : ∃ x, ws[k]? = some x := ⟨_, List.getElem?_eq_getElem (by omega)⟩
      have HX := Lib.hid (HS.out x (List.mem_of_getElem? hx))
      have c0 := (HW.out.others HP.out.o HB.out.1).cell hx
      by_cases hz : k = 0
      · subst hz
        have HT := Lib.hid (show l ++ partL ws (0 + 1) = (l ++ partL ws 0) ++ x.data.toList by rw [part_zero, List.append_nil, part_one hx])
        clear hx hNN
        go_wp2_with (first
          | (go_at_call 50; ((with_reducible refine (writeString_any bt59 B b _ x wr HP.out.d (by have := LEN.out 0; have := HX.out; omega) HBW.out).mono ?_); rintro e w2 ⟨rfl, d2, b2, o2⟩; have P2 := Lib.hid (HP.out.then ⟨d2, b2, o2⟩); clear d2 b2 o2))
          | fail)
        exact ⟨⟨0 + 1, by omega, by simp, by rw [HT.out]; exact P2.out⟩, by simp [intOf]; omega⟩
      · have hk9 : (0 : Int) < (k : Int) := by omega
        have HT := Lib.hid (show l ++ partL ws (k + 1) = ((l ++ partL ws k) ++ [32]) ++ x.data.toList by rw [part_next (by omega) hx]; simp [List.append_assoc])
        have HL32 := Lib.hid (show ((l ++ partL ws k) ++ [32]).length ≤ 3000000000001 by rw [List.length_append]; have := LEN.out k; have h1 : ([32] : List UInt8).length = 1 := rfl; omega)
        have W1 := Lib.hid (writeByte_any bt59 B b _ 32 wr HP.out.d (by have := LEN.out k; omega) HBW.out)
        clear hx hNN
        go_wp2_with (first
          | (go_at_call 45; ((refine W1.out.mono ?_); rintro e w2 ⟨rfl, d2, b2, o2⟩; have P2 := Lib.hid (HP.out.then ⟨d2, b2, o2⟩); clear d2 b2 o2))
          | (go_at_call 50; ((with_reducible refine (writeString_any bt59 B b _ x w2 P2.out.d (by have := HL32.out; have := HX.out; omega) (Nat.le_trans HB.out.2 P2.out.bl.size)).mono ?_); rintro e w3 ⟨rfl, d3, b3, o3⟩; have P3 := Lib.hid (P2.out.then ⟨d3, b3, o3⟩); clear d3 b3 o3))
          | fail)
        exact ⟨⟨k + 1, by omega, rfl, by rw [HT.out]; exact P3.out⟩, by simp [intOf]; omega⟩
    · have hke : k = n := by omega
      subst hke
      have hk1 : ¬ (k : Int) < (k : Int) := by omega
      have HT := Lib.hid (show l ++ lineL ws = (l ++ partL ws k) ++ [10] by unfold lineL partL; rw [List.take_of_length_le (by have := HN.out; omega), List.append_assoc])
      have W1 := Lib.hid (writeByte_any bt59 B b _ 10 wr HP.out.d (by have := LEN.out k; omega) HBW.out)
      go_wp2_with (first
        | (go_at_call 45; ((refine W1.out.mono ?_); rintro e w2 ⟨rfl, d2, b2, o2⟩; have P2 := Lib.hid (HP.out.then ⟨d2, b2, o2⟩); clear d2 b2 o2))
        | fail)
      go_end0
      exact ⟨rfl, by rw [HT.out]; exact P2.out⟩
end Go.Proofs.YtelpkajlejbbgaaGreatDoor
namespace Go.Proofs.YtelpkajlejbbgaaGreatDoor
open Go.RowKit Go.Maps
theorem wb_of {w : World} {b : Nat} {cs : Array Value} {ws : List ByteArray} (h : w.heap[b]? = some (.cells cs 9 (0, 0))) (hp : cs.toList.take ws.length = ws.map Value.string) : WB w b ws := by
  refine ⟨cs, h, fun i x hx => ?_⟩
  have hlt := (List.getElem?_eq_some_iff.1 hx).1
  have e : (cs.toList.take ws.length)[i]? = some (.string x) := by rw [hp, List.getElem?_map, hx]; rfl
  rw [List.getElem?_take, if_pos hlt] at e
  simpa using e
theorem WB.lit (w : World) (cs : Array Value) (ws : List ByteArray) (h : cs.toList = ws.map Value.string) : WB (w.alloc (.cells cs 9)) w.heap.size ws := by
  refine wb_of (heap_alloc_new w _) ?_
  rw [h, List.take_of_length_le (by simp)]
theorem WB.row {w : World} {base : Nat} {A : Option Addr} {l : List ByteArray} {c : Nat} (h : ES.Row w base A l c) (hl : 0 < l.length) : ∃ b, A = some ⟨b, 0, none⟩ ∧ base ≤ b ∧ b < w.heap.size ∧ WB w b l := by
  obtain ⟨b, e, h1, h2, h3⟩ := h.blk hl
  refine ⟨b, e, h1, h2, ?_⟩
  rcases h with ⟨h, _⟩ | ⟨h0, h⟩
  · rw [h] at hl; cases hl
  · rcases h.2 with ⟨hv, hn⟩ | ⟨g, cap, cur, hv, hb, hg, q1, q2, q3, q4⟩
    · omega
    · rw [e] at hv
      injection hv with e1 e2 e3
      injection e1 with e1
      injection e1 with e1 e4 e5
      subst e1
      refine wb_of hg ?_
      rw [← es_all]
      have q : l.length * ES.k = l.length := Nat.mul_one _
      rw [q] at q4
      exact q4
theorem row_lit (w : World) (x : ByteArray) : ES.Row (w.alloc (.cells #[.string x] 9)) w.heap.size (some ⟨w.heap.size, 0, none⟩) [x] 1 :=
  .inr ⟨by omega, rfl, .inr ⟨w.heap.size, 1, #[.string x], rfl, Nat.le_refl _, heap_alloc_new w _, Nat.le_refl _, by unfold maxLen; omega, rfl, rfl⟩⟩
theorem itoa_sz (v : Int) (h0 : -9223372036854775808 ≤ v) (h1 : v ≤ 9223372036854775807) : (itoaB v).size ≤ 21 := by
  unfold itoaB
  rw [ba_size]
  exact Lib.itoa_length_le v h0 h1
set_option maxHeartbeats 2000000 in
set_option maxRecDepth 100000 in
theorem numbers_any (B b : Nat) (word : ByteArray) (A : Option Addr) (n c : Nat) (ns : List Int) (l : List UInt8) (w : World) (hg : GB B w) (hn : ns.length = n) (h0 : n ≤ 900000) (hA : EI.Rd w A ns) (hi : ∀ x ∈ ns, -9223372036854775808 ≤ x ∧ x ≤ 9223372036854775807) (hw : word.size ≤ 100) (hD : Bd 59 B b l w) (hbs : b < w.heap.size) (hl : l.length ≤ 1048576) :
    Calls Tryz.prog 22 #[.pointer (some ⟨b, 0, none⟩), .string word, .slice A n c] w fun e w' => e = .returned (.tuple #[]) ∧ PK B b (l ++ lineL (word :: ns.map itoaB)) w w' := by
  have HN := Lib.hid (And.intro hn h0)
  have HA := Lib.hid hA
  have HG := Lib.hid hg
  have HI := Lib.hid hi
  have HL := Lib.hid (And.intro hw hl)
  have HBS := Lib.hid hbs
  have HP0 := Lib.hid (PK.start hD)
  clear hg hn h0 hA hi hw hD hbs hl
  go_enter Tryz.func22, Tryz.ntmps22
  go_upto_region 2 with fail
  go_loopw [6, 13] (fun lv iv wr => ∃ (k : Nat) (A2 : Option Addr) (c2 : Nat), k ≤ n ∧ iv = .int .i64 k ∧ lv = .slice A2 (k + 1) c2 ∧ Hid (ES.Row wr w.heap.size A2 (word :: (ns.take k).map itoaB) c2) ∧ Below w.heap.size w wr) (fun _ iv _ => n - (intOf iv).toNat)
  case atStart => exact ⟨0, some ⟨w.heap.size, 0, none⟩, 1, by omega, rfl, rfl, Lib.hid (row_lit w word), alb w _⟩
  case round =>
    obtain ⟨k, A2, c2, hk, rfl, rfl, HW, hbw⟩ := hrel
    have HB := Lib.hid hbw
    clear hbw
    have hNN := HN.out
    have HK := Lib.hid (show (word :: (ns.take k).map itoaB).length = k + 1 by rw [List.length_cons, List.length_map, List.length_take]; omega)
    by_cases h8 : k < n
    · have hk1 : (k : Int) < (n : Int) := by omega
      have hk0 : (0 : Int) ≤ (k : Int) := by omega
      have WK : IntKind.i64.wrap ((k : Int) + 1) = (k : Int) + 1 := IntWalk.i64_in _ (by omega)
      obtain ⟨x, hx⟩ : ∃ x, ns[k]? = some x := ⟨_, List.getElem?_eq_getElem (by omega)⟩
      obtain ⟨b2, off, rfl, hlt, g0⟩ := ei_at (HA.out.later HB.out) hx
      have HX := Lib.hid (HI.out x (List.mem_of_getElem? hx))
      have HK2 := Lib.hid (show k + 1 ≤ 1000000 by omega)
      have HT := Lib.hid (show word :: (ns.take (k + 1)).map itoaB = (word :: (ns.take k).map itoaB) ++ [itoaB x] by rw [List.take_add_one, hx]; simp)
      have HGW := Lib.hid (HG.out.later HB.out).gw
      clear hx hNN
      go_wp2_with (first
        | (go_at_call 49; ((refine (itoa_any x HX.out.1 HX.out.2 _ HGW.out).mono ?_); rintro e w1 ⟨rfl, b1⟩; have B1 := Lib.hid (bel_trans HB.out b1); have RW := Lib.hid ((HW.out.later b1).later (alb w1 (.cells #[.string (itoaB x)] 9))); have RV := Lib.hid (RE.Rd.lit (E := ES) w1 9 [itoaB x] #[.string (itoaB x)] rfl); have B2 := Lib.hid (bel_alloc B1.out (.cells #[.string (itoaB x)] 9)); clear b1))
        | (at_builtin; refine RE.wpList_put ES _ rfl (.tmp 17) (.tmp 20) rfl (base := w.heap.size) A2 (k + 1) c2 _ _ 1 1 [itoaB x] rfl rfl RW.out HK.out HK2.out B2.out.size rfl (by omega) RV.out ?_; intro A3 c3 w5 r1 r2 r3; have R1 := Lib.hid r1; have R2 := Lib.hid r2; clear r1 r2 r3)
        | fail)
      exact ⟨⟨k + 1, A3, c3, by omega, rfl, rfl, Lib.hid (by rw [HT.out]; exact R1.out), B2.out.trans (RE.Row.below R2.out RW.out (Nat.le_refl _) B2.out.size)⟩, by simp [intOf]; omega⟩
    · have hke : k = n := by omega
      subst hke
      have hk1 : ¬ (k : Int) < (k : Int) := by omega
      have HE := Lib.hid (show word :: (ns.take k).map itoaB = word :: ns.map itoaB by rw [List.take_of_length_le (by omega)])
      obtain ⟨bw, rfl, h1, h2, hWB⟩ := WB.row HW.out (by simp)
      rw [HE.out] at hWB HK
      have P1 := Lib.hid (HP0.out.later HB.out HG.out.le)
      have LA := Lib.hid (line_any B b bw (k + 1) c2 (word :: ns.map itoaB) l wr HK.out (by omega) hWB P1.out.d (Nat.le_trans HG.out.le HB.out.size) HL.out.2 (by
        intro x hx
        rcases List.mem_cons.1 hx with rfl | hx
        · have := HL.out.1; omega
        · obtain ⟨v, hv, rfl⟩ := List.mem_map.1 hx
          have := itoa_sz v (HI.out v hv).1 (HI.out v hv).2
          omega) (by have := HBS.out; omega))
      clear hNN h1 h2 hWB
      go_wp2_with (first
        | (go_at_call 24; ((refine LA.out.mono ?_); rintro e w2 ⟨rfl, p2⟩; have P2 := Lib.hid (P1.out.then p2); clear p2))
        | fail)
      go_end0
      exact ⟨rfl, P2.out⟩
set_option maxHeartbeats 2000000 in
set_option maxRecDepth 100000 in
theorem numsof_any (a0 a1 a2 a3 a4 a5 a6 a7 a8 : Int) (w : World) :
    Calls Tryz.prog 23 #[cfg a0 a1 a2 a3 a4 a5 a6 a7 a8] w fun e w' => e = .returned (.slice (some ⟨w.heap.size + 1, 0, none⟩) 9 9) ∧ EI.Row w' w.heap.size (some ⟨w.heap.size + 1, 0, none⟩) [a0, a1, a2, a3, a4, a5, a6, a7, a8] 9 ∧ Below w.heap.size w w' := by
  go_enter Tryz.func23, Tryz.ntmps23
  go_wp2
  refine bodyPost_ret (v := .slice (some ⟨w.heap.size + 1, 0, none⟩) 9 9) (by simp [results, Tryz.results23, go_sem]) rfl ⟨rfl, ?_, bel_alloc (alb _ _) _⟩
  have e : (w.alloc (.cells #[.int .i64 a0, .int .i64 a1, .int .i64 a2, .int .i64 a3, .int .i64 a4, .int .i64 a5, .int .i64 a6, .int .i64 a7, .int .i64 a8] 23)).heap.size = w.heap.size + 1 := by simp
  have hn := heap_alloc_new (w.alloc (.cells #[.int .i64 a0, .int .i64 a1, .int .i64 a2, .int .i64 a3, .int .i64 a4, .int .i64 a5, .int .i64 a6, .int .i64 a7, .int .i64 a8] 23)) (.cells #[.int .i64 a0, .int .i64 a1, .int .i64 a2, .int .i64 a3, .int .i64 a4, .int .i64 a5, .int .i64 a6, .int .i64 a7, .int .i64 a8] 3)
  rw [e] at hn
  exact .inr ⟨by omega, rfl, .inr ⟨w.heap.size + 1, 9, _, rfl, by omega, hn, Nat.le_refl _, by unfold maxLen; omega, rfl, rfl⟩⟩
end Go.Proofs.YtelpkajlejbbgaaGreatDoor
