/- The reader: a node's row grows. -/
import Derived.Test.YtdebedeebmmleaaGreatDoorTc12
set_option linter.unusedVariables false
set_option linter.unusedSimpArgs false
namespace Go.Proofs.YtdebedeebmmleaaGreatDoor
open Go.RowKit Go.Maps
theorem Chg.grown {w w' : World} {o : Option Nat} (h : w.grownBy w' o) : Chg (fun b => o = some b) w w' := ⟨h.os, h.tape, h.output, h.size, fun g hg hn => h.block g hg (fun e => hn e.symm)⟩
/-- Whose blocks are, with a new one. -/
def newO (O : Nat → Nat × Nat) (s : Nat) (who : Nat × Nat) : Nat → Nat × Nat := fun b => if b = s then who else O b
theorem newO_old {O : Nat → Nat × Nat} {s : Nat} {who : Nat × Nat} {b : Nat} (h : b < s) : newO O s who b = O b := by unfold newO; rw [if_neg (by omega)]
theorem OwR.put {α : Type} {E : RE α} {w w' : World} {lo : Nat} {O : Nat → Nat × Nat} {who : Nat × Nat} {h : Hd} {l xs : List α} {A' : Option Addr} {c' : Nat} (r : OwR E w lo O who h l) (h1 : E.Row w' lo A' (l ++ xs) c') (hf : RE.fp A' c' = none ∨ RE.fp A' c' = RE.fp h.A h.c ∨ RE.fp A' c' = some w.heap.size) :
    OwR E w' lo (newO O w.heap.size who) who ⟨A', l.length + xs.length, c'⟩ (l ++ xs) := by
  refine ⟨by simp, h1, fun b hb => ?_⟩
  rcases hf with q | q | q
  · rw [q] at hb; cases hb
  · rw [q] at hb
    rw [newO_old (r.2.1.fp_lt hb).2]
    exact r.2.2 b hb
  · have hb2 : RE.fp A' c' = some b := hb
    rw [q] at hb2
    injection hb2 with e
    unfold newO
    rw [if_pos e.symm]
theorem OwR.tell2 {α : Type} {E : RE α} {w w' : World} {lo : Nat} {O O' : Nat → Nat × Nat} {who : Nat × Nat} {h : Hd} {l : List α} (r : OwR E w' lo O who h l) (r0 : OwR E w lo O who h l) (q : ∀ b, b < w.heap.size → O' b = O b) : OwR E w' lo O' who h l :=
  ⟨r.1, r.2.1, fun b hb => by rw [q b (r0.2.1.fp_lt hb).2]; exact r0.2.2 b hb⟩
theorem NS.piv {w w1 : World} {lo nb z : Nat} {O : Nat → Nat × Nat} {ns : List NC} {ys : List NdV} {x : NC} {y : NdV} {A' : Option Addr} {c' : Nat} {xs : List ByteArray} (h : NS w lo nb O ns ys) (hx : ns[z]? = some x) (hy : ys[z]? = some y) (h1 : ES.Row w1 lo A' (y.piv ++ xs) c') (hg : w.grownBy w1 (RE.fp x.p.A x.p.c)) (hf : RE.fp A' c' = none ∨ RE.fp A' c' = RE.fp x.p.A x.p.c ∨ RE.fp A' c' = some w.heap.size) :
    NS (w1.setCell ⟨nb, z * 5 + 1, none⟩ (.slice A' (y.piv.length + xs.length : Nat) c')) lo nb (newO O w.heap.size (z, 1)) (ns.set z { x with p := ⟨A', y.piv.length + xs.length, c'⟩ }) (ys.set z { y with piv := y.piv ++ xs }) ∧ Chg (fun b => b = nb ∨ RE.fp x.p.A x.p.c = some b) w (w1.setCell ⟨nb, z * 5 + 1, none⟩ (.slice A' (y.piv.length + xs.length : Nat) c')) := by
  have h0 := h.row z x y hx hy
  have hlt := h.lt
  have hblk := h.blk.lt
  have CG := Chg.grown hg
  have CW : Chg (fun b => b = nb ∨ RE.fp x.p.A x.p.c = some b) w (w1.setCell ⟨nb, z * 5 + 1, none⟩ (.slice A' (y.piv.length + xs.length : Nat) c')) := (CG.more (fun g e => .inl (.inr e))).then (Chg.set _ _ (.inl rfl))
  have NB1 : NB w1 nb ns := h.blk.chg CG (fun e => by have := (h0.p.2.1.fp_lt e).1; omega)
  have TO : ∀ b, b < w.heap.size → newO O w.heap.size (z, 1) b = O b := fun b hb => newO_old hb
  have DO : ∀ f, f ≠ 1 → ∀ b, (b = nb ∨ RE.fp x.p.A x.p.c = some b) → b < lo ∨ w.heap.size ≤ b ∨ O b ≠ (z, f) := fun f hf b hb => by
    rcases hb with e | e
    · left; omega
    · right; right
      rw [h0.p.2.2 b e]
      intro q
      injection q with q1 q2
      exact hf q2.symm
  have hz : z < ns.length := (List.getElem?_eq_some_iff.1 hx).1
  refine ⟨h.node CW TO (fun b hb => ?_) hz (NB1.s1 hx ⟨A', y.piv.length + xs.length, c'⟩) ⟨h0.k, ((h0.p.put h1 hf).other (Chg.set (D := fun b => b = nb) w1 _ rfl) (fun b e => .inl (by have := h.lt; omega))), ((h0.q.other CW (DO 2 (by decide))).tell2 h0.q TO), ((h0.m.other CW (DO 3 (by decide))).tell2 h0.m TO), ?_⟩, CW⟩
  · rcases hb with e | e
    · left; omega
    · right; right; rw [h0.p.2.2 b e]
  · obtain ⟨hs, g1, g2, g3⟩ := h0.b
    exact ⟨hs, (g1.other CW (DO 4 (by decide))).tell2 g1 TO, g2, fun j g l a b => ((g3 j g l a b).other CW (DO 5 (by decide))).tell2 (g3 j g l a b) TO⟩
theorem NS.kids {w w1 : World} {lo nb z : Nat} {O : Nat → Nat × Nat} {ns : List NC} {ys : List NdV} {x : NC} {y : NdV} {A' : Option Addr} {c' : Nat} {xs : List Int} (h : NS w lo nb O ns ys) (hx : ns[z]? = some x) (hy : ys[z]? = some y) (h1 : EI.Row w1 lo A' (y.kids ++ xs) c') (hg : w.grownBy w1 (RE.fp x.q.A x.q.c)) (hf : RE.fp A' c' = none ∨ RE.fp A' c' = RE.fp x.q.A x.q.c ∨ RE.fp A' c' = some w.heap.size) :
    NS (w1.setCell ⟨nb, z * 5 + 2, none⟩ (.slice A' (y.kids.length + xs.length : Nat) c')) lo nb (newO O w.heap.size (z, 2)) (ns.set z { x with q := ⟨A', y.kids.length + xs.length, c'⟩ }) (ys.set z { y with kids := y.kids ++ xs }) ∧ Chg (fun b => b = nb ∨ RE.fp x.q.A x.q.c = some b) w (w1.setCell ⟨nb, z * 5 + 2, none⟩ (.slice A' (y.kids.length + xs.length : Nat) c')) := by
  have h0 := h.row z x y hx hy
  have hlt := h.lt
  have hblk := h.blk.lt
  have CG := Chg.grown hg
  have CW : Chg (fun b => b = nb ∨ RE.fp x.q.A x.q.c = some b) w (w1.setCell ⟨nb, z * 5 + 2, none⟩ (.slice A' (y.kids.length + xs.length : Nat) c')) := (CG.more (fun g e => .inl (.inr e))).then (Chg.set _ _ (.inl rfl))
  have NB1 : NB w1 nb ns := h.blk.chg CG (fun e => by have := (h0.q.2.1.fp_lt e).1; omega)
  have TO : ∀ b, b < w.heap.size → newO O w.heap.size (z, 2) b = O b := fun b hb => newO_old hb
  have DO : ∀ f, f ≠ 2 → ∀ b, (b = nb ∨ RE.fp x.q.A x.q.c = some b) → b < lo ∨ w.heap.size ≤ b ∨ O b ≠ (z, f) := fun f hf b hb => by
    rcases hb with e | e
    · left; omega
    · right; right
      rw [h0.q.2.2 b e]
      intro q
      injection q with q1 q2
      exact hf q2.symm
  have hz : z < ns.length := (List.getElem?_eq_some_iff.1 hx).1
  refine ⟨h.node CW TO (fun b hb => ?_) hz (NB1.s2 hx ⟨A', y.kids.length + xs.length, c'⟩) ⟨h0.k, ((h0.p.other CW (DO 1 (by decide))).tell2 h0.p TO), ((h0.q.put h1 hf).other (Chg.set (D := fun b => b = nb) w1 _ rfl) (fun b e => .inl (by have := h.lt; omega))), ((h0.m.other CW (DO 3 (by decide))).tell2 h0.m TO), ?_⟩, CW⟩
  · rcases hb with e | e
    · left; omega
    · right; right; rw [h0.q.2.2 b e]
  · obtain ⟨hs, g1, g2, g3⟩ := h0.b
    exact ⟨hs, (g1.other CW (DO 4 (by decide))).tell2 g1 TO, g2, fun j g l a b => ((g3 j g l a b).other CW (DO 5 (by decide))).tell2 (g3 j g l a b) TO⟩
theorem NS.ms {w w1 : World} {lo nb z : Nat} {O : Nat → Nat × Nat} {ns : List NC} {ys : List NdV} {x : NC} {y : NdV} {A' : Option Addr} {c' : Nat} {xs : List M} (h : NS w lo nb O ns ys) (hx : ns[z]? = some x) (hy : ys[z]? = some y) (h1 : EM.Row w1 lo A' (y.ms ++ xs) c') (hg : w.grownBy w1 (RE.fp x.m.A x.m.c)) (hf : RE.fp A' c' = none ∨ RE.fp A' c' = RE.fp x.m.A x.m.c ∨ RE.fp A' c' = some w.heap.size) :
    NS (w1.setCell ⟨nb, z * 5 + 3, none⟩ (.slice A' (y.ms.length + xs.length : Nat) c')) lo nb (newO O w.heap.size (z, 3)) (ns.set z { x with m := ⟨A', y.ms.length + xs.length, c'⟩ }) (ys.set z { y with ms := y.ms ++ xs }) ∧ Chg (fun b => b = nb ∨ RE.fp x.m.A x.m.c = some b) w (w1.setCell ⟨nb, z * 5 + 3, none⟩ (.slice A' (y.ms.length + xs.length : Nat) c')) := by
  have h0 := h.row z x y hx hy
  have hlt := h.lt
  have hblk := h.blk.lt
  have CG := Chg.grown hg
  have CW : Chg (fun b => b = nb ∨ RE.fp x.m.A x.m.c = some b) w (w1.setCell ⟨nb, z * 5 + 3, none⟩ (.slice A' (y.ms.length + xs.length : Nat) c')) := (CG.more (fun g e => .inl (.inr e))).then (Chg.set _ _ (.inl rfl))
  have NB1 : NB w1 nb ns := h.blk.chg CG (fun e => by have := (h0.m.2.1.fp_lt e).1; omega)
  have TO : ∀ b, b < w.heap.size → newO O w.heap.size (z, 3) b = O b := fun b hb => newO_old hb
  have DO : ∀ f, f ≠ 3 → ∀ b, (b = nb ∨ RE.fp x.m.A x.m.c = some b) → b < lo ∨ w.heap.size ≤ b ∨ O b ≠ (z, f) := fun f hf b hb => by
    rcases hb with e | e
    · left; omega
    · right; right
      rw [h0.m.2.2 b e]
      intro q
      injection q with q1 q2
      exact hf q2.symm
  have hz : z < ns.length := (List.getElem?_eq_some_iff.1 hx).1
  refine ⟨h.node CW TO (fun b hb => ?_) hz (NB1.s3 hx ⟨A', y.ms.length + xs.length, c'⟩) ⟨h0.k, ((h0.p.other CW (DO 1 (by decide))).tell2 h0.p TO), ((h0.q.other CW (DO 2 (by decide))).tell2 h0.q TO), ((h0.m.put h1 hf).other (Chg.set (D := fun b => b = nb) w1 _ rfl) (fun b e => .inl (by have := h.lt; omega))), ?_⟩, CW⟩
  · rcases hb with e | e
    · left; omega
    · right; right; rw [h0.m.2.2 b e]
  · obtain ⟨hs, g1, g2, g3⟩ := h0.b
    exact ⟨hs, (g1.other CW (DO 4 (by decide))).tell2 g1 TO, g2, fun j g l a b => ((g3 j g l a b).other CW (DO 5 (by decide))).tell2 (g3 j g l a b) TO⟩
/-- A node's kind is told. -/
theorem NS.kind {w : World} {lo nb z : Nat} {O : Nat → Nat × Nat} {ns : List NC} {ys : List NdV} {x : NC} {y : NdV} (h : NS w lo nb O ns ys) (hx : ns[z]? = some x) (hy : ys[z]? = some y) (k : Int) :
    NS (w.setCell ⟨nb, z * 5, none⟩ (.int .u8 k)) lo nb O (ns.set z { x with k := k }) (ys.set z { y with k := k }) := by
  have h0 := h.row z x y hx hy
  have hlt := h.lt
  have C : Chg (fun b => b = nb) w (w.setCell ⟨nb, z * 5, none⟩ (.int .u8 k)) := Chg.set _ _ rfl
  have D : ∀ f, ∀ b, b = nb → b < lo ∨ w.heap.size ≤ b ∨ O b ≠ (z, f) := fun f b e => .inl (by omega)
  have hz : z < ns.length := (List.getElem?_eq_some_iff.1 hx).1
  refine h.node C (fun _ _ => rfl) (fun b e => .inl (by omega)) hz (h.blk.s0 hx k) ⟨rfl, h0.p.other C (D 1), h0.q.other C (D 2), h0.m.other C (D 3), ?_⟩
  obtain ⟨hs, g1, g2, g3⟩ := h0.b
  exact ⟨hs, g1.other C (D 4), g2, fun j g l a b => (g3 j g l a b).other C (D 5)⟩
/-- Words as a node's pivots and kids: a kid first. -/
def inB : Bool → List ByteArray → Option (List ByteArray × List Int)
  | _, [] => some ([], [])
  | true, a :: r => (rgB 0 2147483647 a).bind fun q => (inB false r).map fun x => (x.1, q :: x.2)
  | false, a :: r => (txtB a).bind fun p => (inB true r).map fun x => (p :: x.1, x.2)
/-- Which of both comes behind so many. -/
def inE : Bool → Nat → Bool
  | e, 0 => e
  | e, n + 1 => !(inE e n)
theorem inE_not (e : Bool) : ∀ n, inE (!e) n = !(inE e n)
  | 0 => rfl
  | n + 1 => by show (!(inE (!e) n)) = !(!(inE e n)); rw [inE_not e n]
theorem inE_even : ∀ n, inE true n = decide (n % 2 = 0)
  | 0 => rfl
  | n + 1 => by
    show (!(inE true n)) = _
    rw [inE_even n]
    rcases Nat.mod_two_eq_zero_or_one n with h | h
    · rw [h, show (n + 1) % 2 = 1 by omega]; rfl
    · rw [h, show (n + 1) % 2 = 0 by omega]; rfl
theorem in_app : ∀ (e : Bool) (p q : List ByteArray), inB e (p ++ q) = (inB e p).bind fun x => (inB (inE e p.length) q).map fun y => (x.1 ++ y.1, x.2 ++ y.2)
  | e, [], q => by
    rw [List.nil_append]
    cases e <;> (simp only [inB, Option.bind_some, List.length_nil, inE, List.nil_append]; cases inB _ q <;> rfl)
  | true, a :: p, q => by
    rw [List.cons_append]
    simp only [inB]
    rw [in_app false p q, List.length_cons, show inE true (p.length + 1) = inE false p.length by show (!(inE true p.length)) = _; rw [← inE_not]; rfl]
    cases rgB 0 2147483647 a with
    | none => rfl
    | some v =>
      cases inB false p with
      | none => rfl
      | some x => cases inB (inE false p.length) q <;> rfl
  | false, a :: p, q => by
    rw [List.cons_append]
    simp only [inB]
    rw [in_app true p q, List.length_cons, show inE false (p.length + 1) = inE true p.length by show (!(inE false p.length)) = _; rw [← inE_not]; rfl]
    cases txtB a with
    | none => rfl
    | some v =>
      cases inB true p with
      | none => rfl
      | some x => cases inB (inE true p.length) q <;> rfl
theorem in_stop {e : Bool} {ws : List ByteArray} {k : Nat} (h : inB e (ws.take k) = none) : inB e ws = none := by
  rw [← List.take_append_drop k ws, in_app, h]
  rfl
/-- The next word is a kid. -/
theorem in_kid {ws : List ByteArray} {k : Nat} {a : ByteArray} {x : List ByteArray × List Int} (h : inB true (ws.take k) = some x) (ha : ws[k]? = some a) (he : k % 2 = 0) : inB true (ws.take (k + 1)) = (rgB 0 2147483647 a).map fun q => (x.1, x.2 ++ [q]) := by
  have hk : k < ws.length := (List.getElem?_eq_some_iff.1 ha).1
  have e : ws.take (k + 1) = ws.take k ++ [a] := by rw [List.take_succ_eq_append_getElem hk]; rw [List.getElem?_eq_getElem hk] at ha; injection ha with ha; rw [ha]
  rw [e, in_app, h, inE_even, List.length_take, Nat.min_eq_left (by omega), he]
  simp [inB]
  cases rgB 0 2147483647 a <;> simp
/-- The next word is a pivot. -/
theorem in_piv {ws : List ByteArray} {k : Nat} {a : ByteArray} {x : List ByteArray × List Int} (h : inB true (ws.take k) = some x) (ha : ws[k]? = some a) (he : k % 2 = 1) : inB true (ws.take (k + 1)) = (txtB a).map fun q => (x.1 ++ [q], x.2) := by
  have hk : k < ws.length := (List.getElem?_eq_some_iff.1 ha).1
  have e : ws.take (k + 1) = ws.take k ++ [a] := by rw [List.take_succ_eq_append_getElem hk]; rw [List.getElem?_eq_getElem hk] at ha; injection ha with ha; rw [ha]
  rw [e, in_app, h, inE_even, List.length_take, Nat.min_eq_left (by omega), he]
  simp [inB]
  cases txtB a <;> simp
end Go.Proofs.YtdebedeebmmleaaGreatDoor
