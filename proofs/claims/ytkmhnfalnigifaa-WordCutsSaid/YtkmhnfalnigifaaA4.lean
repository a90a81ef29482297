/- The word functions: what must be whatever is asked. -/
import Derived.Test.YtkmhnfalnigifaaA3
namespace Go.Proofs.Ytkmhnfalnigifaa
set_option linter.unusedSimpArgs false
open Go.RowKit
set_option linter.unusedVariables false

abbrev zs5 : Array Value := #[.int .u8 0, .int .u8 0, .int .u8 0, .int .u8 0, .int .u8 0]

set_option maxHeartbeats 1000000 in
theorem num_300 (w : World) :
    Calls Try.prog 22 #[.int .i64 300] w fun e w' => e = .returned (.string ⟨#[172, 2]⟩) ∧ Below w.heap.size w w' := by
  go_enter Try.func22, Try.ntmps22
  go_wp2
  go_loopw [0, 4] (fun n i wr => (n = .int .i64 300 ∧ i = .int .i64 0 ∧ wr = w.alloc (.cells zs5 50)) ∨ (n = .int .i64 2 ∧ i = .int .i64 1 ∧ wr = w.alloc (.cells #[.int .u8 172, .int .u8 0, .int .u8 0, .int .u8 0, .int .u8 0] 50))) (fun n _ _ => (intOf n).toNat)
  case atStart => exact .inl ⟨rfl, rfl, rfl⟩
  case round =>
    rcases hrel with ⟨rfl, rfl, rfl⟩ | ⟨rfl, rfl, rfl⟩
    · go_wp2
      have e : bits BinOp.or IntKind.u8 44 128 = 172 := by decide
      rw [e]
      exact ⟨.inr ⟨rfl, rfl, rfl⟩, by decide⟩
    · have hv : (convert 49 9 (.slice (some ⟨w.heap.size, 0, none⟩) 2 5)).run Try.prog (w.alloc (.cells #[.int .u8 172, .int .u8 2, .int .u8 0, .int .u8 0, .int .u8 0] 50)) = .ok (.string ⟨#[172, 2]⟩) (w.alloc (.cells #[.int .u8 172, .int .u8 2, .int .u8 0, .int .u8 0, .int .u8 0] 50)) := by
        refine run_convert_bytes_back (P := Try.prog) _ 49 9 5 ⟨w.heap.size, 0, none⟩ 5 [172, 2] Try.underlying49 Try.underlying5 Try.underlying9 (fun j hj => ?_)
        simp only [List.length_cons, List.length_nil] at hj
        rcases (by omega : j = 0 ∨ j = 1) with rfl | rfl <;> simp [Addr.add, go_sem]
      go_wp2
      go_ret
      exact ⟨rfl, (Below.refl _ _).alloc (Nat.le_refl _) _⟩

set_option maxHeartbeats 1000000 in
theorem takeNum_gen (s : ByteArray) (w : World) (hs : s.size = 3) (g0 : (((s[0]'(by omega)).toNat : Nat) : Int) = 172) (g1 : (((s[1]'(by omega)).toNat : Nat) : Int) = 2) :
    Calls Try.prog 15 #[.string s] w fun e w' => e = .returned (.tuple #[.int .i64 300, .string (s.extract 2 3), .int .i64 0]) ∧ Below w.heap.size w w' := by
  have hs' : (s.size : Int) = 3 := by omega
  have b1 : bits BinOp.and IntKind.u8 172 127 = 44 := by decide
  have b2 : bits BinOp.or IntKind.i64 0 44 = 44 := by decide
  have b3 : bits BinOp.and IntKind.u8 2 127 = 2 := by decide
  have b4 : bits BinOp.or IntKind.i64 44 256 = 300 := by decide
  go_enter Try.func15, Try.ntmps15
  go_wp2
  go_loopw [5, 10] (fun n i wr => wr = w ∧ ((n = .int .i64 0 ∧ i = .int .i64 0) ∨ (n = .int .i64 44 ∧ i = .int .i64 1))) (fun _ i _ => 3 - (intOf i).toNat)
  case atStart => exact ⟨rfl, .inl ⟨rfl, rfl⟩⟩
  case round =>
    rcases hrel with ⟨rfl, ⟨rfl, rfl⟩ | ⟨rfl, rfl⟩⟩
    · go_wp2
      exact ⟨⟨trivial, .inr ⟨rfl, rfl⟩⟩, by decide⟩
    · go_wp2
      go_region
      go_wp2
      refine bodyPost_ret (v := .tuple #[.int .i64 300, .string (s.extract 2 3), .int .i64 0]) (by simp [results, Try.results15, go_sem]) rfl ⟨rfl, ?_⟩
      first
        | exact Below.refl _ _
        | exact (Below.refl _ _).drew

theorem takeNum_300 (w : World) :
    Calls Try.prog 15 #[.string ⟨#[172, 2, 120]⟩] w fun e w' => e = .returned (.tuple #[.int .i64 300, .string ⟨#[120]⟩, .int .i64 0]) ∧ Below w.heap.size w w' :=
  takeNum_gen ⟨#[172, 2, 120]⟩ w rfl rfl rfl
theorem live_put (w : World) : Calls Try.prog 11 #[.int .u64 258] w fun e w' => e = .returned (.string ⟨#[0, 0, 0, 0, 0, 0, 1, 2]⟩) ∧ Below w.heap.size w w' :=
  put_any 258 w (by decide) (by decide)
theorem live_add (w : World) : Calls Try.prog 13 #[.string ⟨#[97, 98, 99]⟩, .bool true, .int .u64 1] w fun e w' => e = .returned (.string ⟨#[97, 98, 99]⟩) ∧ Below w.heap.size w w' :=
  add_any ⟨#[97, 98, 99]⟩ true 1 w (by decide) (by decide)

set_option maxHeartbeats 1000000 in
theorem live_any (w : World) :
    Calls Try.prog 10 #[] w fun e w' => e = .returned (.bool true) ∧ Below w.heap.size w w' := by
  go_enter Try.func10, Try.ntmps10
  go_wp2_with fail
  refine (takeNum_300 _).mono ?_
  rintro e w1 ⟨rfl, h1⟩
  go_wp2_with fail
  refine (num_300 _).mono ?_
  rintro e w2 ⟨rfl, hb2⟩
  have h2 : Below w.heap.size w w2 := h1.trans (hb2.mono h1.size)
  clear h1 hb2
  go_wp2_with fail
  refine (live_put _).mono ?_
  rintro e w3 ⟨rfl, hb3⟩
  have h3 : Below w.heap.size w w3 := h2.trans (hb3.mono h2.size)
  clear h2 hb3
  go_wp2_with fail
  refine (live_add _).mono ?_
  rintro e w4 ⟨rfl, hb4⟩
  have h4 : Below w.heap.size w w4 := h3.trans (hb4.mono h3.size)
  clear h3 hb4
  go_wp2_with fail
  go_ret
  exact ⟨rfl, h4⟩
end Go.Proofs.Ytkmhnfalnigifaa
