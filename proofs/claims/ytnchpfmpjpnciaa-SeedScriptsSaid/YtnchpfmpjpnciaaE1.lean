/- A script while it is made. -/
import Derived.Test.YtnchpfmpjpnciaaB1
namespace Go.Proofs.Ytnchpfmpjpnciaa
set_option linter.unusedSimpArgs false
open Go.RowKit Go.Maps Go.Shelf
set_option linter.unusedVariables false
section
variable (w0 : World) (t g bx rb b0 : Nat) (c2 c3 c4 c5 c6 c7 c8 : Int) (m : Nat) (S0 : Int)
/-- A script while it is made: so many sessions. -/
structure OInv (wr : World) (i : Nat) (A : Option Addr) (c : Nat) (lo : List Value) (D : Nat → Prop) : Prop where
  src : Src wr t g (sst S0 m i)
  box : wr.heap[bx]? = some (.cells #[.int .i64 4, .int .i64 16, .int .i64 c2, .int .i64 c3, .int .i64 c4, .int .i64 c5, .int .i64 c6, .int .i64 c7, .int .i64 c8, .slice A i c, .slice none 0 0] 53 (0, 0))
  res : wr.heap[rb]? = some (.cells #[.int .i64 0, .int .i64 0, .int .i64 0, .int .i64 0, .int .i64 0, .int .i64 0, .int .i64 0, .int .i64 0, .int .i64 0, .slice none 0 0, .slice none 0 0] 53 (0, 0))
  own : wr.ownsRow b0 75 1 (.slice A i c) i lo
  cont : SC wr D m S0 i lo
  dlo : ∀ x, D x → b0 ≤ x ∧ x < wr.heap.size
  dis : ∀ x, (Value.slice A i c).ownBlock = some x → ¬ D x
  bel : Below w0.heap.size w0 wr
  blo : b0 ≤ wr.heap.size
/-- And within a session, so many operations. -/
structure IInv (wr : World) (i : Nat) (A : Option Addr) (c : Nat) (lo : List Value) (D : Nat → Prop) (j : Nat) (A' : Option Addr) (c' : Nat) (lr : List Value) : Prop where
  src : Src wr t g (ost (sst S0 m i) j)
  box : wr.heap[bx]? = some (.cells #[.int .i64 4, .int .i64 16, .int .i64 c2, .int .i64 c3, .int .i64 c4, .int .i64 c5, .int .i64 c6, .int .i64 c7, .int .i64 c8, .slice A i c, .slice none 0 0] 53 (0, 0))
  res : wr.heap[rb]? = some (.cells #[.int .i64 0, .int .i64 0, .int .i64 0, .int .i64 0, .int .i64 0, .int .i64 0, .int .i64 0, .int .i64 0, .int .i64 0, .slice none 0 0, .slice none 0 0] 53 (0, 0))
  own : wr.ownsRow b0 75 1 (.slice A i c) i lo
  cont : SC wr D m S0 i lo
  dlo : ∀ x, D x → b0 ≤ x ∧ x < wr.heap.size
  dis : ∀ x, (Value.slice A i c).ownBlock = some x → ¬ D x
  bel : Below w0.heap.size w0 wr
  blo : b0 ≤ wr.heap.size
  iown : wr.ownsRow b0 42 5 (.slice A' j c') j lr
  icont : OC wr D (sst S0 m i) j lr
  idis : ∀ x, (Value.slice A' j c').ownBlock = some x → ¬ D x
  two : ∀ x, (Value.slice A' j c').ownBlock = some x → (Value.slice A i c).ownBlock ≠ some x
/-- Where the source and the boxes lie. -/
structure Pl : Prop where
  g0 : g < b0
  x0 : bx < b0
  r0 : rb < b0
  gx : g ≠ bx
  gr : g ≠ rb
  xr : bx ≠ rb
  lg : w0.heap.size ≤ g
  lx : w0.heap.size ≤ bx
  lr : w0.heap.size ≤ rb
end
section
variable {w0 : World} {t g bx rb b0 : Nat} {c2 c3 c4 c5 c6 c7 c8 : Int} {m : Nat} {S0 : Int} {wr : World} {i : Nat} {A : Option Addr} {c : Nat} {lo : List Value} {D : Nat → Prop} {j : Nat} {A' : Option Addr} {c' : Nat} {lr : List Value}
theorem keep_chg {E : Nat → Prop} {w w' : World} {x : Nat} {o : Obj} (hc : Chg E w w') (ho : w.heap[x]? = some o) (hx : ¬ E x) : w'.heap[x]? = some o :=
  (hc.block x (by
    rcases Nat.lt_or_ge x w.heap.size with h' | h'
    · exact h'
    · simp [Array.getElem?_eq_none h'] at ho) hx).trans ho
theorem own_far {E : Nat → Prop} {w w' : World} {base e size n : Nat} {v : Value} {xs : List Value} (h : w.ownsRow base e size v n xs) (hc : Chg E w w') (hE : ∀ x, v.ownBlock = some x → ¬ E x) : w'.ownsRow base e size v n xs := by
  obtain ⟨h1, h2⟩ := h
  refine ⟨h1, ?_⟩
  rcases h2 with h2 | ⟨b, cap, cur, rfl, hb, hg, rest⟩
  · exact .inl h2
  · exact .inr ⟨b, cap, cur, rfl, hb, keep_chg hc hg (hE b rfl), rest⟩
theorem Chg.grow {w w' : World} {row : Option Nat} (h : w.grownBy w' row) : Chg (fun x => row = some x) w w' := ⟨h.os, h.tape, h.output, h.size, fun x hx hn => h.block x hx (fun e => hn e.symm)⟩
theorem OInv.begin (h : OInv w0 t g bx rb b0 c2 c3 c4 c5 c6 c7 c8 m S0 wr i A c lo D) {w' : World} (hb : Below wr.heap.size wr w') (A' : Option Addr) (c' : Nat) (hi : w'.ownsRow b0 42 5 (.slice A' 0 c') 0 []) (hA : ∀ x, (Value.slice A' 0 c').ownBlock = some x → wr.heap.size ≤ x) :
    IInv w0 t g bx rb b0 c2 c3 c4 c5 c6 c7 c8 m S0 w' i A c lo D 0 A' c' [] := by
  have hc := Chg.of_below (D := fun _ => False) hb
  refine ⟨h.src.chg hc id, keep_chg hc h.box id, keep_chg hc h.res id, own_far h.own hc (fun _ _ => id), h.cont.chg hc (fun _ _ => id) (fun _ => id), fun x hx => ⟨(h.dlo x hx).1, Nat.lt_of_lt_of_le (h.dlo x hx).2 hb.size⟩, h.dis, h.bel.trans (hb.mono h.bel.size), Nat.le_trans h.blo hb.size, hi, rfl, fun x hx hd => ?_, fun x hx e => ?_⟩
  · have := (h.dlo x hd).2; have := hA x hx; omega
  · have := (h.own.lt x e).2; have := hA x hx; omega
/-- One operation more. -/
theorem IInv.step (p : Pl w0 g bx rb b0) (h : IInv w0 t g bx rb b0 c2 c3 c4 c5 c6 c7 c8 m S0 wr i A c lo D j A' c' lr) {w3 w5 : World} {B : Option Addr} {cb : Nat} (he : Eff t g (opstep (ost (sst S0 m i) j)) wr w3) (hr : RdV w3 wr.heap.size B (oR (ost (sst S0 m i) j))) {o : Obj} {gg cap : Nat}
    (hg : (w3.alloc o).grownBy w5 (Value.slice A' j c').ownBlock) (ho : w5.ownsRow b0 42 5 (.slice (some ⟨gg, 0, none⟩) (j + 1) cap) (j + 1) (lr ++ ocell (ost (sst S0 m i) j) B cb)) (hgg : (Value.slice A' j c').ownBlock = some gg ∨ gg = w3.heap.size + 1) :
    ∃ D', IInv w0 t g bx rb b0 c2 c3 c4 c5 c6 c7 c8 m S0 w5 i A c lo D' (j + 1) (some ⟨gg, 0, none⟩) cap (lr ++ ocell (ost (sst S0 m i) j) B cb) := by
  have hal := alb w3 o
  have hs1 := he.2.size
  have hs2 : (w3.alloc o).heap.size = w3.heap.size + 1 := World.size_alloc _ _
  have hs3 := hg.size
  have own1 : ∀ x, (Value.slice A' j c').ownBlock = some x → b0 ≤ x ∧ x < wr.heap.size := fun x hx => h.iown.lt x hx
  have own2 : ∀ x, (Value.slice A i c).ownBlock = some x → b0 ≤ x ∧ x < wr.heap.size := fun x hx => h.own.lt x hx
  have hc : Chg (fun x => x = g ∨ (Value.slice A' j c').ownBlock = some x) wr w5 := by
    refine ((he.2.more (G := fun x => x = g ∨ (Value.slice A' j c').ownBlock = some x) (fun x hx => .inl (.inl hx))).trans (Chg.of_below (D := fun _ => False) hal) (fun _ h => h.elim)).trans (Chg.grow hg) (fun x hx => .inl (.inr hx))
  have hc3 : Chg (fun x => (Value.slice A' j c').ownBlock = some x) w3 w5 := (Chg.of_below hal).trans (Chg.grow hg) (fun x hx => .inl hx)
  have p1 := p.g0; have p2 := p.x0; have p3 := p.r0; have p4 := p.gx; have p5 := p.gr
  have hbx : ∀ x, x < b0 → x ≠ g → ¬ (x = g ∨ (Value.slice A' j c').ownBlock = some x) := fun x hx hn e => by
    rcases e with e | e
    · exact hn e
    · have := (own1 x e).1; omega
  refine ⟨fun x => D x ∨ (wr.heap.size ≤ x ∧ x < w3.heap.size), he.1.chg hc3 (fun e => by have := (own1 g e).1; omega), keep_chg hc h.box (hbx bx p2 (fun e => p4 e.symm)), keep_chg hc h.res (hbx rb p3 (fun e => p5 e.symm)), own_far h.own hc (fun x hx e => ?_), h.cont.chg hc (fun x hx e => ?_) (fun x hx => .inl hx), fun x hx => ?_, fun x hx hd => ?_, h.bel.trans (hc.below (fun x hx => ?_) h.bel.size), by have := h.blo; omega, ho, ⟨lr, B, cb, rfl, h.icont.chg hc (fun x hx e => ?_) (fun x hx => .inl hx), (RdB.of hr).chg hc3 (fun x hx e => by have := (own1 x e).2; omega) (fun x hx => .inr hx)⟩, fun x hx hd => ?_, fun x hx e => ?_⟩
  · rcases e with e | e
    · have := (own2 x hx).1; omega
    · exact h.two x e hx
  · rcases e with e | e
    · have := (h.dlo x hx).1; omega
    · exact h.idis x e hx
  · rcases hx with hx | hx
    · exact ⟨(h.dlo x hx).1, by have := (h.dlo x hx).2; omega⟩
    · exact ⟨by have := h.blo; omega, by omega⟩
  · rcases hd with hd | hd
    · exact h.dis x hx hd
    · have := (own2 x hx).2; omega
  · rcases hx with hx | hx
    · rw [hx]; exact p.lg
    · have h1 := (own1 x hx).1; have h2 := p.lg; omega
  · rcases e with e | e
    · have := (h.dlo x hx).1; omega
    · exact h.idis x e hx
  · have hx : gg = x := by simpa [Value.ownBlock] using hx
    subst hx
    rcases hgg with hgg | hgg
    · rcases hd with hd | hd
      · exact h.idis gg hgg hd
      · have := (own1 gg hgg).2; omega
    · rcases hd with hd | hd
      · have := (h.dlo gg hd).2; omega
      · omega
  · have hx : gg = x := by simpa [Value.ownBlock] using hx
    subst hx
    rcases hgg with hgg | hgg
    · exact h.two gg hgg e
    · have := (own2 gg e).2; omega
theorem set_row9 {w : World} {b : Nat} {v u v' : Value} (h : w.heap[b]? = some (.cells #[.int .i64 4, .int .i64 16, .int .i64 c2, .int .i64 c3, .int .i64 c4, .int .i64 c5, .int .i64 c6, .int .i64 c7, .int .i64 c8, v, u] 53 (0, 0))) : (w.setCell ⟨b, 9, none⟩ v').heap[b]? = some (.cells #[.int .i64 4, .int .i64 16, .int .i64 c2, .int .i64 c3, .int .i64 c4, .int .i64 c5, .int .i64 c6, .int .i64 c7, .int .i64 c8, v', u] 53 (0, 0)) := by
  simp [World.setCell, Array.getElem?_modify, h]
theorem set_row10 {w : World} {b : Nat} {v u v' : Value} (h : w.heap[b]? = some (.cells #[.int .i64 4, .int .i64 16, .int .i64 c2, .int .i64 c3, .int .i64 c4, .int .i64 c5, .int .i64 c6, .int .i64 c7, .int .i64 c8, v, u] 53 (0, 0))) : (w.setCell ⟨b, 10, none⟩ v').heap[b]? = some (.cells #[.int .i64 4, .int .i64 16, .int .i64 c2, .int .i64 c3, .int .i64 c4, .int .i64 c5, .int .i64 c6, .int .i64 c7, .int .i64 c8, v, v'] 53 (0, 0)) := by
  simp [World.setCell, Array.getElem?_modify, h]
/-- One session more. -/
theorem IInv.done (p : Pl w0 g bx rb b0) (h : IInv w0 t g bx rb b0 c2 c3 c4 c5 c6 c7 c8 m S0 wr i A c lo D m A' c' lr) {w4 : World} {o : Obj} {gg cap : Nat}
    (hg : (wr.alloc o).grownBy w4 (Value.slice A i c).ownBlock) (ho : w4.ownsRow b0 75 1 (.slice (some ⟨gg, 0, none⟩) (i + 1) cap) (i + 1) (lo ++ [.slice A' m c'])) (hgg : (Value.slice A i c).ownBlock = some gg ∨ gg = wr.heap.size + 1) :
    ∃ D', OInv w0 t g bx rb b0 c2 c3 c4 c5 c6 c7 c8 m S0 (w4.setCell ⟨bx, 9, none⟩ (.slice (some ⟨gg, 0, none⟩) (i + 1) cap)) (i + 1) (some ⟨gg, 0, none⟩) cap (lo ++ [.slice A' m c']) D' := by
  have hal := alb wr o
  have hs2 : (wr.alloc o).heap.size = wr.heap.size + 1 := World.size_alloc _ _
  have hs3 := hg.size
  have own1 : ∀ x, (Value.slice A' m c').ownBlock = some x → b0 ≤ x ∧ x < wr.heap.size := fun x hx => h.iown.lt x hx
  have own2 : ∀ x, (Value.slice A i c).ownBlock = some x → b0 ≤ x ∧ x < wr.heap.size := fun x hx => h.own.lt x hx
  have p1 := p.g0; have p2 := p.x0; have p3 := p.r0; have p4 := p.gx; have p5 := p.gr; have p6 := p.xr
  have hc4 : Chg (fun x => (Value.slice A i c).ownBlock = some x) wr w4 := (Chg.of_below hal).trans (Chg.grow hg) (fun x hx => .inl hx)
  have hst : Chg (fun x => x = bx) w4 (w4.setCell ⟨bx, 9, none⟩ (.slice (some ⟨gg, 0, none⟩) (i + 1) cap)) := Chg.set w4 _ rfl
  have hc : Chg (fun x => x = bx ∨ (Value.slice A i c).ownBlock = some x) wr (w4.setCell ⟨bx, 9, none⟩ (.slice (some ⟨gg, 0, none⟩) (i + 1) cap)) :=
    (hc4.more (G := fun x => x = bx ∨ (Value.slice A i c).ownBlock = some x) (fun x hx => .inl (.inr hx))).trans hst (fun x hx => .inl (.inl hx))
  have hsz := hst.size
  have hbx : ∀ x, x < b0 → x ≠ bx → ¬ (x = bx ∨ (Value.slice A i c).ownBlock = some x) := fun x hx hn e => by
    rcases e with e | e
    · exact hn e
    · have := (own2 x e).1; omega
  have hbox4 := keep_chg hc4 h.box (fun e => by have := (own2 bx e).1; omega)
  obtain ⟨Ai, ci, hv, hrd⟩ := RdV.of_own h.iown
  obtain ⟨rfl, rfl⟩ : A' = Ai ∧ c' = ci := by injection hv with h1 h2 h3; exact ⟨h1, h3⟩
  refine ⟨fun x => D x ∨ (Value.slice A' m c').ownBlock = some x, h.src.chg hc (hbx g p1 p4), set_row9 hbox4, keep_chg hc h.res (hbx rb p3 (fun e => p6 e.symm)), own_far ho hst (fun x hx e => ?_), ⟨lo, A', c', lr, rfl, h.cont.chg hc (fun x hx e => ?_) (fun x hx => .inl hx), ?_, h.icont.chg hc (fun x hx e => ?_) (fun x hx => .inl hx)⟩, fun x hx => ?_, fun x hx hd => ?_, h.bel.trans (hc.below (fun x hx => ?_) h.bel.size), by have := h.blo; omega⟩
  · have hx : gg = x := by simpa [Value.ownBlock] using hx
    subst hx
    rcases hgg with hgg | hgg
    · have := (own2 gg hgg).1; omega
    · have := h.blo; omega
  · rcases e with e | e
    · have := (h.dlo x hx).1; omega
    · exact h.dis x e hx
  · rcases hrd with hrd | ⟨b, h1, h2, h3, h4⟩
    · exact .inl hrd
    · subst h1
      refine RdB.chg (D := fun x => x = b) (.inr ⟨b, rfl, rfl, h3, h4⟩) hc (fun x hx e => ?_) (fun x hx => .inr (by rw [hx]; rfl))
      rw [hx] at e
      rcases e with e | e
      · omega
      · exact h.two b rfl e
  · rcases e with e | e
    · have := (h.dlo x hx).1; omega
    · exact h.dis x e hx
  · rcases hx with hx | hx
    · exact ⟨(h.dlo x hx).1, by have := (h.dlo x hx).2; omega⟩
    · exact ⟨(own1 x hx).1, by have := (own1 x hx).2; omega⟩
  · have hx : gg = x := by simpa [Value.ownBlock] using hx
    subst hx
    rcases hgg with hgg | hgg
    · rcases hd with hd | hd
      · exact h.dis gg hgg hd
      · exact h.two gg hd hgg
    · rcases hd with hd | hd
      · have := (h.dlo gg hd).2; omega
      · have := (own1 gg hd).2; omega
  · rcases hx with hx | hx
    · rw [hx]; exact p.lx
    · have h1 := (own2 x hx).1; have h2 := p.lx; omega
end
end Go.Proofs.Ytnchpfmpjpnciaa
