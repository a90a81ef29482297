/- A script while it is made: words. -/
import Derived.Deep.AppendLies
import Derived.Test.YtnchpfmpjpnciaaE2
import Derived.Test.YtnchpfmpjpnciaaD2
namespace Go.Proofs.Ytnchpfmpjpnciaa
set_option linter.unusedSimpArgs false
open Go.RowKit Go.Maps Go.Shelf
set_option linter.unusedVariables false
section
variable {w0 : World} {t g bx rb b0 : Nat} {c2 c3 c4 c5 c6 c7 c8 : Int} {m : Nat} {S0 : Int} {wr : World} {i : Nat} {A : Option Addr} {c : Nat} {lo : List Value} {D : Nat → Prop}
/-- All sessions are there, and the picks: the script is. -/
theorem OInv.finish (p : Pl w0 g bx rb b0) (h : OInv w0 t g bx rb b0 c2 c3 c4 c5 c6 c7 c8 m S0 wr i A c lo D) {w6 w8 : World} {S' s : Int} {np : Nat} {P : Option Addr} (he : Eff t g S' wr w6) (hr : RdV w6 wr.heap.size P (prow (sst S0 m i) s np)) (hc : Chg (fun x => x = bx ∨ x = rb) w6 w8) :
    (∃ D', Scr w8 D' S0 m i s np A P) ∧ Below w0.heap.size w0 w8 := by
  have p1 := p.g0; have p2 := p.x0; have p3 := p.r0
  have own2 : ∀ x, (Value.slice A i c).ownBlock = some x → b0 ≤ x ∧ x < wr.heap.size := fun x hx => h.own.lt x hx
  have hc2 : Chg (fun x => x = g ∨ x = bx ∨ x = rb) wr w8 := (he.2.more (G := fun x => x = g ∨ x = bx ∨ x = rb) (fun x hx => .inl (.inl hx))).trans hc (fun x hx => .inl (.inr hx))
  have hfar : ∀ x, b0 ≤ x → ¬ (x = g ∨ x = bx ∨ x = rb) := fun x hx e => by omega
  obtain ⟨Ai, ci, hv, hrd⟩ := RdV.of_own h.own
  obtain ⟨rfl, rfl⟩ : A = Ai ∧ c = ci := by injection hv with h1 h2 h3; exact ⟨h1, h3⟩
  refine ⟨⟨fun x => b0 ≤ x, lo, ?_, h.cont.chg hc2 (fun x hx => hfar x (h.dlo x hx).1) (fun x hx => (h.dlo x hx).1), ?_⟩, h.bel.trans (hc2.below (fun x hx => by have := p.lg; have := p.lx; have := p.lr; omega) h.bel.size)⟩
  · rcases hrd with hrd | ⟨b, h1, h2, h3, h4⟩
    · exact .inl hrd
    · exact RdB.chg (D := fun x => b0 ≤ x) (.inr ⟨b, h1, h2, h3, h4⟩) hc2 (fun x hx => hfar x hx) (fun x hx => hx)
  · rcases hr with hr | ⟨b, h1, h2, h3, h4⟩
    · exact .inl hr
    · refine RdB.chg (D := fun x => b0 ≤ x) (.inr ⟨b, h1, by have := h.blo; omega, h3, h4⟩) hc (fun x hx e => hfar x hx (.inr e)) (fun x hx => hx)
end
theorem info53 : (Try.prog.info? 53).map (·.size) = some 11 := by kernel_rfl
theorem info42z : (Try.prog.info? 42).map (fun i => (i.zero, i.size, i.bytes)) = some (some (.agg #[.int .u8 0, .string ⟨#[]⟩, .string ⟨#[]⟩, .int .i64 0, .slice none 0 0]), 5, 72) := by kernel_rfl
theorem info75z : (Try.prog.info? 75).map (fun i => (i.zero, i.size, i.bytes)) = some (some (.slice none 0 0), 1, 24) := by kernel_rfl
theorem run_zs (w : World) : Sem.run Try.prog (zeroValue 53) w = Result.ok (Value.agg #[.int .i64 0, .int .i64 0, .int .i64 0, .int .i64 0, .int .i64 0, .int .i64 0, .int .i64 0, .int .i64 0, .int .i64 0, .slice none 0 0, .slice none 0 0]) w := by
  kernel_rfl
theorem res53 {f : Func} (hf : f.results = #[.cell 8 53]) (tmps : Array Value) (w : World) (g : Nat) (cs : Array Value) (hp : tmps.getD 8 undef = .pointer (some ⟨g, 0, none⟩)) (hg : w.heap[g]? = some (.cells cs 53 (0, 0))) (hi : cs.size = 11) :
    (results f tmps).run Try.prog w = .ok (.agg cs) w := by
  have hp' : tmps[8]?.getD undef = .pointer (some ⟨g, 0, none⟩) := by simpa using hp
  simp [results, hf, hp', asAddr, run_loadVar_row w g 53 53 cs (0, 0) _ hg Try.underlying53 rfl (by rw [hi]; exact info53)]
theorem cfA_form (S : Int) : ∃ c2 c3 c4 c5 c6 c7 c8, cfA S = #[.int .i64 4, .int .i64 16, .int .i64 c2, .int .i64 c3, .int .i64 c4, .int .i64 c5, .int .i64 c6, .int .i64 c7, .int .i64 c8] ∧ (4 ≤ c2 ∧ c2 ≤ 64) ∧ (0 ≤ c3 ∧ c3 ≤ 1000) ∧ (4 ≤ c4 ∧ c4 ≤ 256) ∧ (2 ≤ c5 ∧ c5 ≤ 4) ∧ (2 ≤ c6 ∧ c6 ≤ 4096) ∧ (0 ≤ c7 ∧ c7 ≤ 1000) ∧ (3 ≤ c8 ∧ c8 ≤ 1024) := by
  have r0 := bl_range S 5 (by omega)
  have r1 := bl_range (bs S 5) 100 (by omega)
  have r2 := bl_range (bs (bs S 5) 100) 9 (by omega)
  have r3 := bl_range (bs (bs (bs S 5) 100) 9) 3 (by omega)
  have r4 := bl_range (bs (bs (bs (bs S 5) 100) 9) 3) 200 (by omega)
  have r5 := bl_range (bs (bs (bs (bs (bs S 5) 100) 9) 3) 200) 5 (by omega)
  have r6 := bl_range (bs (bs (bs (bs (bs (bs S 5) 100) 9) 3) 200) 5) 6 (by omega)
  refine ⟨_, _, _, _, _, _, _, rfl, ⟨by omega, by omega⟩, ⟨by omega, by omega⟩, ⟨by omega, by omega⟩, ⟨by omega, by omega⟩, ⟨by omega, by omega⟩, ⟨by omega, by omega⟩, ⟨by omega, by omega⟩⟩
theorem cells11 {w : World} {b : Nat} {c2 c3 c4 c5 c6 c7 c8 : Int} {v u : Value} (h : w.heap[b]? = some (.cells #[.int .i64 4, .int .i64 16, .int .i64 c2, .int .i64 c3, .int .i64 c4, .int .i64 c5, .int .i64 c6, .int .i64 c7, .int .i64 c8, v, u] 53 (0, 0))) : w.cell? ⟨b, 9, none⟩ = some v ∧ w.cell? ⟨b, 10, none⟩ = some u ∧ w.frozen? ⟨b, 9, none⟩ = false ∧ w.frozen? ⟨b, 10, none⟩ = false :=
  ⟨(cell_of_row _ _ 9 _ 53 (0, 0) h).trans rfl, (cell_of_row _ _ 10 _ 53 (0, 0) h).trans rfl, frozen_of_row _ _ _ _ _ h, frozen_of_row _ _ _ _ _ h⟩
/-- What making a script leaves. -/
def SPost (c2 c3 c4 c5 c6 c7 c8 S0 s : Int) (m nn np : Nat) (w : World) (e : Ending) (w' : World) : Prop := ∃ A c P cp, e = .returned (.agg #[.int .i64 4, .int .i64 16, .int .i64 c2, .int .i64 c3, .int .i64 c4, .int .i64 c5, .int .i64 c6, .int .i64 c7, .int .i64 c8, .slice A nn c, .slice P np cp]) ∧ (∃ D, Scr w' D S0 m nn s np A P) ∧ Below w.heap.size w w'
def mops (ops : Int) : Nat := (cl0 ops 100).toNat
theorem mops_cast (ops : Int) : (mops ops : Int) = cl0 ops 100 ∧ mops ops ≤ 100 := by
  have := cl0_range ops 100 (by omega)
  unfold mops; omega
theorem mops_lt (n : Int) (k : Nat) : k < mops n ↔ (k : Int) < n ∧ (k : Int) < 100 := by
  have h := mops_cast n
  unfold cl0 at h
  split at h
  · omega
  · split at h <;> omega
def nses (n : Int) : Nat := (cl n 64).toNat
theorem nses_cast (n : Int) : (nses n : Int) = cl n 64 ∧ 1 ≤ nses n ∧ nses n ≤ 64 := by
  have := cl_range n 64 (by omega)
  unfold nses; omega
end Go.Proofs.Ytnchpfmpjpnciaa
