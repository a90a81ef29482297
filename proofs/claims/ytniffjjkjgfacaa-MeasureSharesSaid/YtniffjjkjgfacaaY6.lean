/- kids: its one kid, before the round's last region. -/
import Derived.Test.YtniffjjkjgfacaaY5
import Derived.Test.YtniffjjkjgfacaaY2
import Derived.Test.YtniffjjkjgfacaaV2
namespace Go.Proofs.Ytniffjjkjgfacaa
set_option linter.unusedSimpArgs false
open Go.RowKit Go.Maps Go.Shelf
set_option linter.unusedVariables false
attribute [local go_sem] Oper.semAt_some
/-- Where a node stands. -/
structure SP where
  i : Int
  f : ByteArray
  t : ByteArray
  p : Int
  a : Int
def ES : RE SP where
  st := 83
  et := 90
  k := 5
  by_ := 56
  z := .agg #[.int .i64 0, .string ⟨#[]⟩, .string ⟨#[]⟩, .int .i64 0, .int .i64 0]
  cs := fun x => [.int .i64 x.i, .string x.f, .string x.t, .int .i64 x.p, .int .i64 x.a]
  kpos := by omega
  len := fun _ => rfl
  one := fun x u hu => by simp at hu; rcases hu with rfl | rfl | rfl | rfl | rfl <;> rfl
  und := Try.underlying83
  info := by kernel_rfl
  zk := rfl
  bmax := by omega
theorem es_at {w : World} {A : Option Addr} {xs : List SP} (h : ES.Rd w A xs) {i : Nat} {x : SP} (hi : xs[i]? = some x) : ∃ b off, A = some ⟨b, off, none⟩ ∧ b < w.heap.size ∧ w.cell? ⟨b, off + i * 5, none⟩ = some (.int .i64 x.i) ∧ w.cell? ⟨b, off + i * 5 + 1, none⟩ = some (.string x.f) ∧ w.cell? ⟨b, off + i * 5 + 2, none⟩ = some (.string x.t) ∧ w.cell? ⟨b, off + i * 5 + 3, none⟩ = some (.int .i64 x.p) ∧ w.cell? ⟨b, off + i * 5 + 4, none⟩ = some (.int .i64 x.a) := by
  obtain ⟨b, off, e, h1, h2⟩ := h.get hi
  exact ⟨b, off, e, h1, by simpa [ES] using h2 0 _ rfl, by simpa [ES] using h2 1 _ rfl, by simpa [ES] using h2 2 _ rfl, by simpa [ES] using h2 3 _ rfl, by simpa [ES] using h2 4 _ rfl⟩
set_option maxHeartbeats 1000000 in
theorem rev1 (A : Option Addr) (c : Nat) (w : World) : Calls Try.prog 70 #[.slice A 1 c] w fun e w' => (∃ v, e = .returned v) ∧ Below w.heap.size w w' := by
  go_enter Try.func70, Try.ntmps70
  go_wp2
  go_loop [2, 3] (fun i j => i = .int .i64 0 ∧ j = .int .i64 0) (fun _ _ => 0)
  case atStart => exact ⟨rfl, rfl⟩
  case round =>
    obtain ⟨rfl, rfl⟩ := hrel
    go_wp2
    go_end0
    exact ⟨⟨_, rfl⟩, Below.refl _ _⟩
abbrev N1 (kb : Nat) : Value := .agg #[.int .u8 2, S0, KS kb, S0, S0]
abbrev SP1 : Value := .agg #[.int .i64 1, E0, E0, .int .i64 0, .int .i64 0]
def sp2 : SP := ⟨2, ⟨#[]⟩, ⟨#[]⟩, 1, 0⟩
/-- What lies between the rounds: the box of the slice, and its row. -/
def KdI (bs : Nat) (k : Nat) (D : Nat → Prop) (W : World) : Prop :=
  ∃ A' c', D = (fun g => g = bs ∨ RE.fp A' c' = some g) ∧ Boxed W bs 83 (.slice A' k c') ∧ ES.Row W (bs + 1) A' ([sp2].take k) c'
theorem kdI_loc (bs B : Nat) : LocB B (KdI bs) := by
  rintro k D W W' ⟨A', c', rfl, h1, h2⟩ hc
  exact ⟨A', c', rfl, boxed_chg h1 hc (fun h => h.1 (.inl rfl)), h2.chg hc (fun g e h => h.1 (.inr e))⟩
/-- What the body reads: the node's box, the spot's box, the kid. -/
structure KB (W : World) (m kb : Nat) : Prop where
  n : W.heap[m]? = some (.cells #[.int .u8 2, S0, KS kb, S0, S0] 43 (0, 0))
  s : W.heap[m + 1]? = some (.cells #[.int .i64 1, E0, E0, .int .i64 0, .int .i64 0] 90 (0, 0))
  kc : W.heap[kb]? = some (.cells #[.int .i64 2] 3 (0, 0))
  lt : kb < m
theorem KB.chg {D : Nat → Prop} {W W' : World} {m kb : Nat} (h : KB W m kb) (hc : Chg D W W') (h1 : ¬ D m) (h2 : ¬ D (m + 1)) (h3 : ¬ D kb) : KB W' m kb := ⟨keep_chg hc h.n h1, keep_chg hc h.s h2, keep_chg hc h.kc h3, h.lt⟩
theorem KB.later {W W' : World} {m kb : Nat} (h : KB W m kb) (hb : Below W.heap.size W W') : KB W' m kb := ⟨keep_bel hb h.n, keep_bel hb h.s, keep_bel hb h.kc, h.lt⟩
def KidsPost (w : World) (e : Ending) (w' : World) : Prop := ∃ A c, e = .returned (.slice A 1 c) ∧ ES.Row w' w.heap.size A [sp2] c ∧ Below w.heap.size w w'
end Go.Proofs.Ytniffjjkjgfacaa
