/- All cursors of a table, one after the other. -/
import Derived.Test.YtdbcaiggliiacaaX1
namespace Go.Proofs.Ytdbcaiggliiacaa
set_option linter.unusedSimpArgs false
open Go.RowKit Go.Maps Go.Sort Go.Shelf
set_option linter.unusedVariables false
attribute [local go_sem] Oper.semAt_some
theorem m_is (w : World) (v : Value) : (Instr.typeAssert (.iface 56 v) 20 56 false).run Try.prog w = .ok v w := by
  simp [Instr.typeAssert, run_underlying Try.underlying56, go_sem, Result.andThen]
theorem m_clone {w : World} {M : Nat} {es : Array MapEntry} {ck : Nat} (hb : w.heap[M]? = some (.map es ck)) :
    (Extern.MapsClone.clone #[.iface 56 (.map (some M))]).run Try.prog w = .ok (.iface 56 (.map (some w.heap.size))) (w.alloc (.map es ck)) := by
  have hg := MapKept.run_getObj_map (P := Try.prog) hb
  have e : Extern.MapsClone.clone #[.iface 56 (.map (some M))] = (getObj M >>= fun o => match o with
      | .map entries clock => (newObj (.map entries clock) >>= fun n => pure (.iface 56 (.map (some n))))
      | _ => stuck "maps.clone: a map expected") := rfl
  rw [e]
  simp [hg, Result.andThen, go_sem]
set_option maxRecDepth 10000 in
set_option maxHeartbeats 1000000 in
theorem clone_any {w : World} {M m n : Nat} {S : Int → Option Value} (h : OM w M m n S) : Calls Try.prog 40 #[.map (some M)] w fun e w' => e = .returned (.map (some w.heap.size)) ∧ OM w' w.heap.size m n S ∧ Below w.heap.size w w' := by
  obtain ⟨D, ⟨es, ck, hb, F, hs, hD⟩, hF⟩ := h
  have hq := fun w => m_nil w M
  go_enter Try.func40, Try.ntmps40
  go_wp2
  rw [run_callFunc_extern Try.func50 (by kernel_rfl) (by kernel_rfl) (by kernel_rfl) (e := Extern.MapsClone.clone) (by kernel_rfl), m_clone hb]
  simp only [Result.andThen]
  rw [Oper.upon_value]
  go_wp2
  rw [m_is]
  simp only [Result.andThen]
  rw [Oper.upon_value]
  go_wp2
  go_ret
  exact ⟨rfl, ⟨D, ⟨es, ck, heap_alloc_new w _, F, hs, hD⟩, hF⟩, alb w _⟩
/-- A box with a map of its own, as All hands it on. -/
def Held (w : World) (B M' m n : Nat) (S : Int → Option Cur) : Prop := Boxed w B 56 (.map (some M')) ∧ OM w M' m n (fun x => (S x).map cvv)
set_option maxHeartbeats 1000000 in
theorem all_any {w : World} {N M m n : Nat} {last : Int} {S : Int → Option Cur} (h : PT w N M m n last S) :
    Calls Try.prog 27 #[.pointer (some ⟨N, 0, none⟩)] w fun e w' => ∃ B M', e = .returned (.func (.func 41) #[] #[.pointer (some ⟨B, 0, none⟩)]) ∧ Held w' B M' m n S ∧ w.heap.size ≤ B ∧ w.heap.size ≤ M' ∧ Below w.heap.size w w' := by
  have HB := Lib.hid (alb w (.cells #[.map none] 56))
  have c0 := (h.later HB.out).c0
  have CL := Lib.hid (clone_any (h.2.heap (rows_old w (.cells #[.map none] 56) M h.lt.2)))
  clear h
  go_enter Try.func27, Try.ntmps27
  go_wp2_with (first
    | (go_at_call 40; ((with_reducible refine CL.out.mono ?_); rintro e w1 ⟨rfl, o1, b1⟩; have O1 := Lib.hid o1; have B1 := Lib.hid b1; have z := keep_bel b1 (heap_alloc_new w (.cells #[.map none] 56)); have Z := Lib.hid z; have k0 : w1.cell? ⟨w.heap.size, 0, none⟩ = some (.map none) := (by simp [World.cell?, z]); have k1 : w1.frozen? ⟨w.heap.size, 0, none⟩ = false := (by simp [World.frozen?, z]); clear o1 b1 z))
    | fail)
  go_ret
  have zb : Boxed w1 w.heap.size 56 (.map none) := Z.out
  have o2 : OM w1 (w.heap.size + 1) m n (fun x => (S x).map cvv) := by simpa using O1.out
  refine ⟨w.heap.size, w.heap.size + 1, rfl, ⟨by simpa using zb.set (.map (some (w.heap.size + 1))), o2.heap ?_⟩, by omega, by omega, ?_⟩
  · exact (Chg.set (D := fun g => g = w.heap.size) w1 (.map (some (w.heap.size + 1))) rfl).block _ o2.lt (by omega)
  · exact (bel_trans HB.out B1.out).trans ((Chg.set (D := fun g => g = w.heap.size) w1 (.map (some (w.heap.size + 1))) rfl).below (fun g e => by omega) (bel_trans HB.out B1.out).size)
theorem own_form {w : World} {base n : Nat} {e : TypeId} {v : Value} {xs : List Value} (h : w.ownsRow base e 1 v n xs) : ∃ A c, v = .slice A n c ∧ Rd w w.heap.size A xs ∧ (0 < n → ∀ a, A = some a → base ≤ a.block) := by
  have h' := h
  rcases h.2 with ⟨rfl, rfl⟩ | ⟨g, cap, cur, rfl, hg, _⟩
  · refine ⟨none, 0, rfl, .inl ?_, fun q => absurd q (Nat.lt_irrefl _)⟩
    have := h.1
    simpa using this
  · exact ⟨_, _, rfl, Rd.of_own h' (by decide), fun _ a e => by cases e; exact hg⟩
/-- What All tells of each cursor: its number, and what it has still to tell. -/
abbrev XE := Int × ByteArray × ByteArray
abbrev enc3 (x : XE) : Array Value := #[.int .i64 x.1, .agg #[.string x.2.1, .string x.2.2]]
/-- xs is, in order, what S has. -/
structure Lists (S : Int → Option Cur) (xs : List XE) : Prop where
  up : (xs.map (·.1)).Pairwise (· < ·)
  has : ∀ k, (S k).isSome = true ↔ k ∈ xs.map (·.1)
  val : ∀ x ∈ xs, ∃ e, S x.1 = some (x.2.1, x.2.2, e)
theorem Lists.sort {S : Int → Option Cur} {xs : List XE} (h : Lists S xs) {D : DataW Value} (hF : MF D (fun x => (S x).map cvv)) (hk : ∀ es, D = .map es → ∀ p ∈ es, ∃ x, p.1 = Lit.int .i64 x) {ss : List Int} (hs : ss.Perm (intKeys D)) : ss.mergeSort (fun x y => decide (x ≤ y)) = xs.map (·.1) := by
  obtain ⟨es, rfl, hp⟩ := hF.1
  have hnd : (xs.map (·.1)).Nodup := h.up.imp (fun h => Int.ne_of_lt h)
  have hperm := perm_intKeys hp (hk es rfl) hnd (fun x => by rw [← h.has x, hF.2.1 x]; simp)
  have e1 := mergeSort_of_perm_i (hs.trans hperm.symm)
  have e2 : (xs.map (·.1)).mergeSort leI = xs.map (·.1) := List.mergeSort_of_pairwise (h.up.imp (fun h => by simp only [leI, decide_eq_true_eq]; omega))
  exact e1.trans e2
theorem lists_len {S : Int → Option Cur} {xs : List XE} {w : World} {M m n : Nat} (h : Lists S xs) (ho : OM w M m n (fun x => (S x).map cvv)) : xs.length = n := by
  obtain ⟨D, hown, hF, hsz⟩ := ho
  obtain ⟨es, rfl, hp⟩ := hF.1
  obtain ⟨es', he, hko⟩ := hown.keysOf
  obtain rfl : es = es' := by simpa using he
  have hk : ∀ p ∈ es, ∃ x, p.1 = Lit.int .i64 x := fun p hp' => by
    obtain ⟨v, hv⟩ := hko p hp'
    obtain ⟨x, _, hx, _⟩ := Maps.keyOf_i64 Try.underlying3 hv
    exact ⟨x, hx⟩
  have hnd : (xs.map (·.1)).Nodup := h.up.imp (fun h => Int.ne_of_lt h)
  have hperm := perm_intKeys hp hk hnd (fun x => by rw [← h.has x, hF.2.1 x]; simp)
  have := hperm.length_eq
  rw [List.length_map] at this
  rw [this, ← hsz]
  simp [intKeys, Maps.size]
end Go.Proofs.Ytdbcaiggliiacaa
