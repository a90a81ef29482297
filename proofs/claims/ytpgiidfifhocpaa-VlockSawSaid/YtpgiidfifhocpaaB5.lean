/- The law VlockSaw where the list is empty. -/
import Derived.Test.YtpgiidfifhocpaaB2
namespace Go.Proofs.Ytpgiidfifhocpaa
set_option linter.unusedSimpArgs false
open Go.RowKit
set_option linter.unusedVariables false
attribute [local go_sem] iss

set_option maxHeartbeats 1000000 in
theorem saw_nil (a1 : Int) (w : World) (u1 : 0 ≤ a1) (u2 : a1 ≤ 255) :
    Calls Try.prog 7 #[.slice none 0 0, .int .u8 a1] w fun e w' => e = .returned (.bool true) ∧ Below w.heap.size w w' := by
  go_enter Try.func7, Try.ntmps7
  go_wp2
  go_loopw [7] (fun i wr => i = .int .i64 0 ∧ Box wr w.heap.size (ix 0) (ix 0) (.bool false) ∧ Below w.heap.size w wr) (fun _ _ => 0)
  case atStart => exact ⟨rfl, Box.new _ _ _ _, (Below.refl _ _).alloc (Nat.le_refl _) _⟩
  case round =>
    obtain ⟨rfl, Bx, hB⟩ := hrel
    obtain ⟨x0, x1, x2, x3, x4, x5⟩ := (⟨Bx.c0, Bx.c1, Bx.c2, Bx.f0, Bx.f1, Bx.f2⟩ : _ ∧ _ ∧ _ ∧ _ ∧ _ ∧ _)
    have hE : beginE 0 0 false = 0 := by simp [beginE]
    have hN : beginN 0 0 false = 0 := by simp [beginN]
    go_wp2_with fail
    refine (begin_any _ _ _ _).mono ?_
    rintro e w1 ⟨rfl, hb⟩
    rw [hE, hN]
    have hB1 := hB.trans (hb.mono hB.size)
    clear hb x0 x1 x2 x3 x4 x5 Bx hB hE hN
    go_wp2_with fail
    go_loopw [10, 11] (fun ch i wr => ch = .bool false ∧ i = .int .i64 0 ∧ Below w.heap.size w wr) (fun _ _ _ => 0)
    case atStart => exact ⟨rfl, rfl, hB1⟩
    case round =>
      clear hB1
      obtain ⟨rfl, rfl, hB⟩ := hrel
      go_wp2_with fail
      refine (live_any _).mono ?_
      rintro e w2 ⟨rfl, hb⟩
      go_wp2_with fail
      go_ret
      exact ⟨rfl, hB.trans (hb.mono hB.size)⟩

set_option maxHeartbeats 1000000 in
theorem saw_zero (x : Addr) (cap : Nat) (a1 : Int) (w : World) (hm : cap ≤ maxLen) (u1 : 0 ≤ a1) (u2 : a1 ≤ 255) :
    Calls Try.prog 7 #[.slice (some x) 0 cap, .int .u8 a1] w fun e w' => e = .returned (.bool true) ∧ Below w.heap.size w w' := by
  unfold maxLen at hm
  have hc : (0 : Int) ≤ (cap : Int) := by omega
  go_enter Try.func7, Try.ntmps7
  go_wp2
  go_loopw [7] (fun i wr => i = .int .i64 0 ∧ Box wr w.heap.size (ix 0) (ix 0) (.bool false) ∧ Below w.heap.size w wr) (fun _ _ => 0)
  case atStart => exact ⟨rfl, Box.new _ _ _ _, (Below.refl _ _).alloc (Nat.le_refl _) _⟩
  case round =>
    obtain ⟨rfl, Bx, hB⟩ := hrel
    obtain ⟨x0, x1, x2, x3, x4, x5⟩ := (⟨Bx.c0, Bx.c1, Bx.c2, Bx.f0, Bx.f1, Bx.f2⟩ : _ ∧ _ ∧ _ ∧ _ ∧ _ ∧ _)
    have hE : beginE 0 0 false = 0 := by simp [beginE]
    have hN : beginN 0 0 false = 0 := by simp [beginN]
    go_wp2_with fail
    refine (begin_any _ _ _ _).mono ?_
    rintro e w1 ⟨rfl, hb⟩
    rw [hE, hN]
    have hB1 := hB.trans (hb.mono hB.size)
    clear hb x0 x1 x2 x3 x4 x5 Bx hB hE hN
    go_wp2_with fail
    go_loopw [10, 11] (fun ch i wr => ch = .bool false ∧ i = .int .i64 0 ∧ Below w.heap.size w wr) (fun _ _ _ => 0)
    case atStart => exact ⟨rfl, rfl, hB1⟩
    case round =>
      clear hB1
      obtain ⟨rfl, rfl, hB⟩ := hrel
      go_wp2_with fail
      refine (live_any _).mono ?_
      rintro e w2 ⟨rfl, hb⟩
      go_wp2_with fail
      go_ret
      exact ⟨rfl, hB.trans (hb.mono hB.size)⟩
end Go.Proofs.Ytpgiidfifhocpaa
