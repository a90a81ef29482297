/- Arenas: the small readers. -/
import Derived.Test.YtpihoegikojlaaaRows
import Derived.Test.YtpihoegikojlaaaL0
namespace Go.Proofs.Ytpihoegikojlaaa
set_option linter.unusedSimpArgs false
open Go.RowKit
set_option linter.unusedVariables false

set_option maxRecDepth 100000 in
theorem lenS_at (N n m c d : Nat) (A G : Option Addr) (w : World) (h1 : w.cell? ⟨N, 1, none⟩ = some (.slice A n c)) (h2 : w.cell? ⟨N, 2, none⟩ = some (.slice G m d)) (hn : n ≤ 1000000) (hm : m ≤ 1000000) :
    Calls Try.prog 39 #[.pointer (some ⟨N, 0, none⟩)] w fun e w' => e = .returned (.int .i64 ((n : Int) - m)) ∧ Below w.heap.size w w' := by
  have e0 : -9223372036854775808 ≤ (n : Int) - m := by omega
  have e1 : (n : Int) - m ≤ 9223372036854775807 := by omega
  go_enter Try.func39, Try.ntmps39
  go_wp2_with fail
  go_region
  all_goals
    go_wp2
    go_ret
    exact ⟨rfl, by go_grown⟩

set_option maxRecDepth 100000 in
theorem leftS_at (N n m c d : Nat) (M : Int) (A G : Option Addr) (w : World) (h0 : w.cell? ⟨N, 0, none⟩ = some (.int .i64 M)) (h1 : w.cell? ⟨N, 1, none⟩ = some (.slice A n c)) (h2 : w.cell? ⟨N, 2, none⟩ = some (.slice G m d)) (hn : n ≤ 1000000) (hm : m ≤ 1000000) (m0 : 0 ≤ M) (m1 : M ≤ 1000000) :
    Calls Try.prog 36 #[.pointer (some ⟨N, 0, none⟩)] w fun e w' => e = .returned (.int .i64 (M - ((n : Int) - m))) ∧ Below w.heap.size w w' := by
  have q : IntKind.i64.wrap (M - ((n : Int) - m)) = M - ((n : Int) - m) := IntWalk.i64_in _ (by omega)
  have C := Lib.hid (fun W h1 h2 => lenS_at N n m c d A G W h1 h2 hn hm)
  go_enter Try.func36, Try.ntmps36
  go_wp2_with fail
  go_region_with (go_at_call 39; refine (C.out _ (by simpa using h1) (by simpa using h2)).mono ?_; rintro e w1 ⟨rfl, hb⟩; have f0 : w1.cell? ⟨N, 0, none⟩ = some (.int .i64 M) := bel_later hb (by simpa using h0))
  all_goals
    go_wp2
    go_ret
    exact ⟨rfl, by first | exact hb | exact bel_dr hb | go_grown⟩

set_option maxRecDepth 100000 in
theorem topS_at (N n c : Nat) (A : Option Addr) (w : World) (h1 : w.cell? ⟨N, 1, none⟩ = some (.slice A n c)) :
    Calls Try.prog 20 #[.pointer (some ⟨N, 0, none⟩)] w fun e w' => e = .returned (.int .i64 n) ∧ w = w' := by
  go_enter Try.func20, Try.ntmps20
  go_wp2
  go_ret
  exact ⟨rfl, rfl⟩

set_option maxRecDepth 100000 in
theorem atS_in (N n c b i : Nat) (w : World) (h1 : w.cell? ⟨N, 1, none⟩ = some (.slice (some ⟨b, 0, none⟩) n c)) (hi : i < n) (hn : n ≤ 1000000) (h2 : w.cell? ⟨b, i * 2 + 1, none⟩ = some (.bool true)) :
    Calls Try.prog 37 #[.pointer (some ⟨N, 0, none⟩), .int .i64 ((i : Int) + 1)] w fun e w' => e = .returned (.pointer (some ⟨b, i * 2, none⟩)) ∧ w = w' := by
  have a1 : ¬ ((i : Int) + 1 < 1) := by omega
  have a2 : ¬ ((n : Int) < (i : Int) + 1) := by omega
  have a3 : (i : Int) + 1 - 1 = i := by omega
  have a4 : (i : Int) < n := by omega
  have a5 : (0 : Int) ≤ i := by omega
  go_enter Try.func37, Try.ntmps37
  go_wp2
  go_ret
  exact ⟨rfl, rfl⟩

set_option maxRecDepth 100000 in
theorem atS_out (N n c : Nat) (A : Option Addr) (w : World) (h1 : w.cell? ⟨N, 1, none⟩ = some (.slice A n c)) (hn : n ≤ 1000000) :
    Calls Try.prog 37 #[.pointer (some ⟨N, 0, none⟩), .int .i64 ((n : Int) + 1)] w fun e w' => e = .returned (.pointer none) ∧ w = w' := by
  have a1 : ¬ ((n : Int) + 1 < 1) := by omega
  have a2 : ((n : Int) < (n : Int) + 1) := by omega
  go_enter Try.func37, Try.ntmps37
  go_wp2
  go_ret
  exact ⟨rfl, rfl⟩

set_option maxRecDepth 100000 in
theorem newS_20 (w : World) :
    Calls Try.prog 17 #[.int .i64 20] w fun e w' => e = .returned (.tuple #[.pointer (some ⟨w.heap.size, 0, none⟩), .int .i64 0]) ∧ w' = w.alloc (.cells #[.int .i64 20, .slice none 0 0, .slice none 0 0] 85) := by
  go_enter Try.func17, Try.ntmps17
  go_wp2
  refine bodyPost_ret (v := .tuple #[.pointer (some ⟨w.heap.size, 0, none⟩), .int .i64 0]) (by simp [results, Try.results17, go_sem]) rfl ⟨rfl, rfl⟩
end Go.Proofs.Ytpihoegikojlaaa
