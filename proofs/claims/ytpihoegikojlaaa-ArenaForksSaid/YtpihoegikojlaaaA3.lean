/- Arenas of numbers: the small readers. -/
import Derived.Test.YtpihoegikojlaaaRows
import Derived.Test.YtpihoegikojlaaaL0
import Derived.Deep.RegionLaw
namespace Go.Proofs.Ytpihoegikojlaaa
set_option linter.unusedSimpArgs false
open Go.RowKit
set_option linter.unusedVariables false

set_option maxRecDepth 100000 in
theorem lenI_at (N n m c d : Nat) (A G : Option Addr) (w : World) (h1 : w.cell? ⟨N, 1, none⟩ = some (.slice A n c)) (h2 : w.cell? ⟨N, 2, none⟩ = some (.slice G m d)) (hn : n ≤ 1000000) (hm : m ≤ 1000000) :
    Calls Try.prog 15 #[.pointer (some ⟨N, 0, none⟩)] w fun e w' => e = .returned (.int .i64 ((n : Int) - m)) ∧ Below w.heap.size w w' := by
  have e0 : -9223372036854775808 ≤ (n : Int) - m := by omega
  have e1 : (n : Int) - m ≤ 9223372036854775807 := by omega
  go_enter Try.func15, Try.ntmps15
  go_wp2_with fail
  go_region
  all_goals
    go_wp2
    go_ret
    exact ⟨rfl, by go_grown⟩

set_option maxRecDepth 100000 in
theorem leftI_at (N n m c d : Nat) (M : Int) (A G : Option Addr) (w : World) (h0 : w.cell? ⟨N, 0, none⟩ = some (.int .i64 M)) (h1 : w.cell? ⟨N, 1, none⟩ = some (.slice A n c)) (h2 : w.cell? ⟨N, 2, none⟩ = some (.slice G m d)) (hn : n ≤ 1000000) (hm : m ≤ 1000000) (m0 : 0 ≤ M) (m1 : M ≤ 1000000) :
    Calls Try.prog 9 #[.pointer (some ⟨N, 0, none⟩)] w fun e w' => e = .returned (.int .i64 (M - ((n : Int) - m))) ∧ Below w.heap.size w w' := by
  have q : IntKind.i64.wrap (M - ((n : Int) - m)) = M - ((n : Int) - m) := IntWalk.i64_in _ (by omega)
  have C := Lib.hid (fun W h1 h2 => lenI_at N n m c d A G W h1 h2 hn hm)
  go_enter Try.func9, Try.ntmps9
  go_wp2_with fail
  go_region_with (go_at_call 15; refine (C.out _ (by simpa using h1) (by simpa using h2)).mono ?_; rintro e w1 ⟨rfl, hb⟩; have f0 : w1.cell? ⟨N, 0, none⟩ = some (.int .i64 M) := bel_later hb (by simpa using h0))
  all_goals
    go_wp2
    go_ret
    exact ⟨rfl, by first | exact hb | exact bel_dr hb | go_grown⟩

set_option maxRecDepth 100000 in
theorem topI_at (N n c : Nat) (A : Option Addr) (w : World) (h1 : w.cell? ⟨N, 1, none⟩ = some (.slice A n c)) :
    Calls Try.prog 32 #[.pointer (some ⟨N, 0, none⟩)] w fun e w' => e = .returned (.int .i64 n) ∧ w = w' := by
  go_enter Try.func32, Try.ntmps32
  go_wp2
  go_ret
  exact ⟨rfl, rfl⟩

set_option maxRecDepth 100000 in
theorem atI_in (N n c b i : Nat) (w : World) (h1 : w.cell? ⟨N, 1, none⟩ = some (.slice (some ⟨b, 0, none⟩) n c)) (hi : i < n) (hn : n ≤ 1000000) (h2 : w.cell? ⟨b, i * 2 + 1, none⟩ = some (.bool true)) :
    Calls Try.prog 38 #[.pointer (some ⟨N, 0, none⟩), .int .i64 ((i : Int) + 1)] w fun e w' => e = .returned (.pointer (some ⟨b, i * 2, none⟩)) ∧ w = w' := by
  have a1 : ¬ ((i : Int) + 1 < 1) := by omega
  have a2 : ¬ ((n : Int) < (i : Int) + 1) := by omega
  have a3 : (i : Int) + 1 - 1 = i := by omega
  have a4 : (i : Int) < n := by omega
  have a5 : (0 : Int) ≤ i := by omega
  go_enter Try.func38, Try.ntmps38
  go_wp2
  go_ret
  exact ⟨rfl, rfl⟩

set_option maxRecDepth 100000 in
theorem atI_out (N n c : Nat) (A : Option Addr) (w : World) (h1 : w.cell? ⟨N, 1, none⟩ = some (.slice A n c)) (hn : n ≤ 1000000) :
    Calls Try.prog 38 #[.pointer (some ⟨N, 0, none⟩), .int .i64 ((n : Int) + 1)] w fun e w' => e = .returned (.pointer none) ∧ w = w' := by
  have a1 : ¬ ((n : Int) + 1 < 1) := by omega
  have a2 : ((n : Int) < (n : Int) + 1) := by omega
  go_enter Try.func38, Try.ntmps38
  go_wp2
  go_ret
  exact ⟨rfl, rfl⟩

set_option maxRecDepth 100000 in
theorem getI_in (N n c b i : Nat) (s : Int) (w : World) (h1 : w.cell? ⟨N, 1, none⟩ = some (.slice (some ⟨b, 0, none⟩) n c)) (hi : i < n) (hn : n ≤ 1000000) (h2 : w.cell? ⟨b, i * 2 + 1, none⟩ = some (.bool true)) (h3 : w.cell? ⟨b, i * 2, none⟩ = some (.int .i64 s)) :
    Calls Try.prog 22 #[.pointer (some ⟨N, 0, none⟩), .int .i64 ((i : Int) + 1)] w fun e w' => e = .returned (.tuple #[.int .i64 s, .bool true]) ∧ w = w' := by
  have C := Lib.hid (atI_in N n c b i w h1 hi hn h2)
  go_enter Try.func22, Try.ntmps22
  go_wp2_with fail
  refine C.out.mono ?_
  rintro e w1 ⟨rfl, rfl⟩
  go_wp2
  refine bodyPost_ret (v := .tuple #[.int .i64 s, .bool true]) (by simp [results, Try.results22, go_sem]) rfl ⟨rfl, rfl⟩

set_option maxRecDepth 100000 in
theorem getI_out (N n c : Nat) (A : Option Addr) (w : World) (h1 : w.cell? ⟨N, 1, none⟩ = some (.slice A n c)) (hn : n ≤ 1000000) :
    Calls Try.prog 22 #[.pointer (some ⟨N, 0, none⟩), .int .i64 ((n : Int) + 1)] w fun e w' => e = .returned (.tuple #[.int .i64 0, .bool false]) ∧ w = w' := by
  have C := Lib.hid (atI_out N n c A w h1 hn)
  go_enter Try.func22, Try.ntmps22
  go_wp2_with fail
  refine C.out.mono ?_
  rintro e w1 ⟨rfl, rfl⟩
  go_wp2
  refine bodyPost_ret (v := .tuple #[.int .i64 0, .bool false]) (by simp [results, Try.results22, go_sem]; try rfl) rfl ⟨rfl, rfl⟩


set_option maxRecDepth 100000 in
theorem newI_ok (M : Int) (w : World) (h0 : 1 ≤ M) (h1 : M ≤ 4096) :
    Calls Try.prog 7 #[.int .i64 M] w fun e w' => e = .returned (.tuple #[.pointer (some ⟨w.heap.size, 0, none⟩), .int .i64 0]) ∧ w' = w.alloc (.cells #[.int .i64 M, .slice none 0 0, .slice none 0 0] 61) := by
  have a1 : ¬ (M < 1) := by omega
  have a2 : ¬ (4096 < M) := by omega
  go_enter Try.func7, Try.ntmps7
  go_wp2
  refine bodyPost_ret (v := .tuple #[.pointer (some ⟨w.heap.size, 0, none⟩), .int .i64 0]) (by simp [results, Try.results7, go_sem]) rfl ⟨rfl, rfl⟩

/-- An arena of M places at N: the places' cells, and those that were given back. -/
def AI (w : World) (base N : Nat) (M : Int) (n : Nat) (pl : List Value) (m : Nat) (gs : List Value) : Prop :=
  ∃ A c G d, w.cell? ⟨N, 0, none⟩ = some (.int .i64 M) ∧ w.cell? ⟨N, 1, none⟩ = some (.slice A n c) ∧ w.cell? ⟨N, 2, none⟩ = some (.slice G m d) ∧ w.frozen? ⟨N, 1, none⟩ = false ∧ w.frozen? ⟨N, 2, none⟩ = false ∧
    w.ownsRow base 80 2 (.slice A n c) n pl ∧ w.ownsRow base 3 1 (.slice G m d) m gs ∧ (Value.slice A n c).ownBlock ≠ some N ∧ (Value.slice G m d).ownBlock ≠ some N ∧
    (∀ b, (Value.slice A n c).ownBlock = some b → (Value.slice G m d).ownBlock ≠ some b) ∧ base ≤ N ∧ base ≤ w.heap.size ∧ 0 ≤ M ∧ M ≤ 4096 ∧ n ≤ 4096 ∧ m ≤ 4096

theorem info80 : (Try.prog.info? 80).map (fun i => (i.zero, i.size, i.bytes)) = some (some (.agg #[.int .i64 0, .bool false]), 2, 16) := by kernel_rfl
theorem info3 : (Try.prog.info? 3).map (fun i => (i.zero, i.size, i.bytes)) = some (some (.int .i64 0), 1, 8) := by kernel_rfl

set_option maxRecDepth 100000 in
theorem takeI_full (N base n m : Nat) (M v : Int) (pl gs : List Value) (w : World) (h : AI w base N M n pl m gs) (hf : M - ((n : Int) - m) = 0) :
    Calls Try.prog 14 #[.pointer (some ⟨N, 0, none⟩), .int .i64 v] w fun e w' => e = .returned (.tuple #[.int .i64 0, .int .i64 9]) ∧ Below w.heap.size w w' := by
  obtain ⟨A, c, G, d, h0, h1, h2, f1, f2, o1, o2, e1, e2, e3, b1, b2, m0, m1, m2, m3⟩ := h
  have C := leftI_at N n m c d M A G w h0 h1 h2 (by omega) (by omega) (by omega) (by omega)
  rw [hf] at C
  have CC := Lib.hid C
  clear C o1 o2 e1 e2 e3 f1 f2 h0 h1 h2
  go_enter Try.func14, Try.ntmps14
  go_wp2_with fail
  refine CC.out.mono ?_
  rintro e w1 ⟨rfl, hb⟩
  go_wp2
  refine bodyPost_ret (v := .tuple #[.int .i64 0, .int .i64 9]) (by simp [results, Try.results14, go_sem]) rfl ⟨rfl, hb⟩
end Go.Proofs.Ytpihoegikojlaaa
