/- The law RoomChecks: its walk. -/
import Derived.Test.YtifikngmddfahaaD1
import Derived.Test.YtifikngmddfahaaD4
import Derived.Test.YtifikngmddfahaaA5
namespace Go.Proofs.Ytifikngmddfahaa
set_option linter.unusedSimpArgs false
open Go.RowKit
set_option linter.unusedVariables false

set_option maxRecDepth 100000 in
set_option maxHeartbeats 4000000 in
theorem checks_any (k n a0 a1 a2 a3 a4 a5 a6 a7 a8 : Int) (key too : ByteArray) (B : Option Addr) (len cap : Nat) (l : List M) (w : World) (hl : l.length = len) (hA : MsL w w.heap.size B l) :
    Calls Try.prog 3 #[.agg #[.int .i64 a0, .int .i64 a1, .int .i64 a2, .int .i64 a3, .int .i64 a4, .int .i64 a5, .int .i64 a6, .int .i64 a7, .int .i64 a8], .agg #[.int .u8 k, .string key, .string too, .int .i64 n, .slice B len cap]] w fun e w' => e = .returned (.bool true) ∧ Below w.heap.size w w' := by
  have HA := Lib.hid hA
  clear hA
  go_enter Try.func3, Try.ntmps3
  go_wp2_with fail
  have f0 : ((w.alloc (.cells #[.int .i64 a0, .int .i64 a1, .int .i64 a2, .int .i64 a3, .int .i64 a4, .int .i64 a5, .int .i64 a6, .int .i64 a7, .int .i64 a8] 23)).alloc (.cells #[.int .u8 k, .string key, .string too, .int .i64 n, .slice B len cap] 27)).cell? ⟨w.heap.size, 0, none⟩ = some (.int .i64 a0) := by simp [go_sem]
  have f1 : ((w.alloc (.cells #[.int .i64 a0, .int .i64 a1, .int .i64 a2, .int .i64 a3, .int .i64 a4, .int .i64 a5, .int .i64 a6, .int .i64 a7, .int .i64 a8] 23)).alloc (.cells #[.int .u8 k, .string key, .string too, .int .i64 n, .slice B len cap] 27)).cell? ⟨w.heap.size, 1, none⟩ = some (.int .i64 a1) := by simp [go_sem]
  have f2 : ((w.alloc (.cells #[.int .i64 a0, .int .i64 a1, .int .i64 a2, .int .i64 a3, .int .i64 a4, .int .i64 a5, .int .i64 a6, .int .i64 a7, .int .i64 a8] 23)).alloc (.cells #[.int .u8 k, .string key, .string too, .int .i64 n, .slice B len cap] 27)).cell? ⟨w.heap.size, 2, none⟩ = some (.int .i64 a2) := by simp [go_sem]
  have f3 : ((w.alloc (.cells #[.int .i64 a0, .int .i64 a1, .int .i64 a2, .int .i64 a3, .int .i64 a4, .int .i64 a5, .int .i64 a6, .int .i64 a7, .int .i64 a8] 23)).alloc (.cells #[.int .u8 k, .string key, .string too, .int .i64 n, .slice B len cap] 27)).cell? ⟨w.heap.size, 3, none⟩ = some (.int .i64 a3) := by simp [go_sem]
  have f4 : ((w.alloc (.cells #[.int .i64 a0, .int .i64 a1, .int .i64 a2, .int .i64 a3, .int .i64 a4, .int .i64 a5, .int .i64 a6, .int .i64 a7, .int .i64 a8] 23)).alloc (.cells #[.int .u8 k, .string key, .string too, .int .i64 n, .slice B len cap] 27)).cell? ⟨w.heap.size, 4, none⟩ = some (.int .i64 a4) := by simp [go_sem]
  have f5 : ((w.alloc (.cells #[.int .i64 a0, .int .i64 a1, .int .i64 a2, .int .i64 a3, .int .i64 a4, .int .i64 a5, .int .i64 a6, .int .i64 a7, .int .i64 a8] 23)).alloc (.cells #[.int .u8 k, .string key, .string too, .int .i64 n, .slice B len cap] 27)).cell? ⟨w.heap.size, 5, none⟩ = some (.int .i64 a5) := by simp [go_sem]
  have f6 : ((w.alloc (.cells #[.int .i64 a0, .int .i64 a1, .int .i64 a2, .int .i64 a3, .int .i64 a4, .int .i64 a5, .int .i64 a6, .int .i64 a7, .int .i64 a8] 23)).alloc (.cells #[.int .u8 k, .string key, .string too, .int .i64 n, .slice B len cap] 27)).cell? ⟨w.heap.size, 6, none⟩ = some (.int .i64 a6) := by simp [go_sem]
  have f7 : ((w.alloc (.cells #[.int .i64 a0, .int .i64 a1, .int .i64 a2, .int .i64 a3, .int .i64 a4, .int .i64 a5, .int .i64 a6, .int .i64 a7, .int .i64 a8] 23)).alloc (.cells #[.int .u8 k, .string key, .string too, .int .i64 n, .slice B len cap] 27)).cell? ⟨w.heap.size, 7, none⟩ = some (.int .i64 a7) := by simp [go_sem]
  have f8 : ((w.alloc (.cells #[.int .i64 a0, .int .i64 a1, .int .i64 a2, .int .i64 a3, .int .i64 a4, .int .i64 a5, .int .i64 a6, .int .i64 a7, .int .i64 a8] 23)).alloc (.cells #[.int .u8 k, .string key, .string too, .int .i64 n, .slice B len cap] 27)).cell? ⟨w.heap.size, 8, none⟩ = some (.int .i64 a8) := by simp [go_sem]
  have e0 : ((w.alloc (.cells #[.int .i64 a0, .int .i64 a1, .int .i64 a2, .int .i64 a3, .int .i64 a4, .int .i64 a5, .int .i64 a6, .int .i64 a7, .int .i64 a8] 23)).alloc (.cells #[.int .u8 k, .string key, .string too, .int .i64 n, .slice B len cap] 27)).cell? ⟨w.heap.size + 1, 0, none⟩ = some (.int .u8 k) := by simp [go_sem]
  have e1 : ((w.alloc (.cells #[.int .i64 a0, .int .i64 a1, .int .i64 a2, .int .i64 a3, .int .i64 a4, .int .i64 a5, .int .i64 a6, .int .i64 a7, .int .i64 a8] 23)).alloc (.cells #[.int .u8 k, .string key, .string too, .int .i64 n, .slice B len cap] 27)).cell? ⟨w.heap.size + 1, 1, none⟩ = some (.string key) := by simp [go_sem]
  have e2 : ((w.alloc (.cells #[.int .i64 a0, .int .i64 a1, .int .i64 a2, .int .i64 a3, .int .i64 a4, .int .i64 a5, .int .i64 a6, .int .i64 a7, .int .i64 a8] 23)).alloc (.cells #[.int .u8 k, .string key, .string too, .int .i64 n, .slice B len cap] 27)).cell? ⟨w.heap.size + 1, 2, none⟩ = some (.string too) := by simp [go_sem]
  have e3 : ((w.alloc (.cells #[.int .i64 a0, .int .i64 a1, .int .i64 a2, .int .i64 a3, .int .i64 a4, .int .i64 a5, .int .i64 a6, .int .i64 a7, .int .i64 a8] 23)).alloc (.cells #[.int .u8 k, .string key, .string too, .int .i64 n, .slice B len cap] 27)).cell? ⟨w.heap.size + 1, 3, none⟩ = some (.int .i64 n) := by simp [go_sem]
  have e4 : ((w.alloc (.cells #[.int .i64 a0, .int .i64 a1, .int .i64 a2, .int .i64 a3, .int .i64 a4, .int .i64 a5, .int .i64 a6, .int .i64 a7, .int .i64 a8] 23)).alloc (.cells #[.int .u8 k, .string key, .string too, .int .i64 n, .slice B len cap] 27)).cell? ⟨w.heap.size + 1, 4, none⟩ = some (.slice B len cap) := by simp [go_sem]
  have hW : Below w.heap.size w ((w.alloc (.cells #[.int .i64 a0, .int .i64 a1, .int .i64 a2, .int .i64 a3, .int .i64 a4, .int .i64 a5, .int .i64 a6, .int .i64 a7, .int .i64 a8] 23)).alloc (.cells #[.int .u8 k, .string key, .string too, .int .i64 n, .slice B len cap] 27)) := by go_grown
  generalize ((w.alloc (.cells #[.int .i64 a0, .int .i64 a1, .int .i64 a2, .int .i64 a3, .int .i64 a4, .int .i64 a5, .int .i64 a6, .int .i64 a7, .int .i64 a8] 23)).alloc (.cells #[.int .u8 k, .string key, .string too, .int .i64 n, .slice B len cap] 27)) = W at *
  have kp : ∀ X, Below W.heap.size W X → (X.cell? ⟨w.heap.size, 0, none⟩ = some (.int .i64 a0) ∧ X.cell? ⟨w.heap.size, 1, none⟩ = some (.int .i64 a1) ∧ X.cell? ⟨w.heap.size, 2, none⟩ = some (.int .i64 a2) ∧ X.cell? ⟨w.heap.size, 3, none⟩ = some (.int .i64 a3) ∧ X.cell? ⟨w.heap.size, 4, none⟩ = some (.int .i64 a4) ∧ X.cell? ⟨w.heap.size, 5, none⟩ = some (.int .i64 a5) ∧ X.cell? ⟨w.heap.size, 6, none⟩ = some (.int .i64 a6) ∧ X.cell? ⟨w.heap.size, 7, none⟩ = some (.int .i64 a7) ∧ X.cell? ⟨w.heap.size, 8, none⟩ = some (.int .i64 a8) ∧ X.cell? ⟨w.heap.size + 1, 0, none⟩ = some (.int .u8 k) ∧ X.cell? ⟨w.heap.size + 1, 1, none⟩ = some (.string key) ∧ X.cell? ⟨w.heap.size + 1, 2, none⟩ = some (.string too) ∧ X.cell? ⟨w.heap.size + 1, 3, none⟩ = some (.int .i64 n) ∧ X.cell? ⟨w.heap.size + 1, 4, none⟩ = some (.slice B len cap)) := fun X h => ⟨bel_later h f0, bel_later h f1, bel_later h f2, bel_later h f3, bel_later h f4, bel_later h f5, bel_later h f6, bel_later h f7, bel_later h f8, bel_later h e0, bel_later h e1, bel_later h e2, bel_later h e3, bel_later h e4⟩
  have KP := Lib.hid kp
  have AA : ∀ X, Below W.heap.size W X → MsL X X.heap.size B l := fun X h => (HA.out.keep hW).keep h
  have D1 := Lib.hid (fun W => check_any a0 a1 a2 a3 a4 a5 a6 a7 a8 W)
  have D2 := Lib.hid (fun W => rcheck_any a0 a1 a2 a3 a4 a5 a6 a7 a8 W)
  have D3 := Lib.hid (fun W hA => ask_any k n a0 a1 a2 a3 a4 a5 a6 a7 a8 key too B len cap l W hl hA)
  have D4 := Lib.hid (fun W hA => rask_any k n a0 a1 a2 a3 a4 a5 a6 a7 a8 key too B len cap l W hl hA)
  have MA := Lib.hid AA
  clear kp hl AA HA
  simp only [cfg] at D1 D2 D3 D4
  generalize checkF a0 a1 a2 a3 a4 a5 a6 a7 a8 = x1 at *
  generalize askF k n a0 a1 a8 key too len l = x2 at *
  go_region_held3 (fun X => X.cell? ⟨w.heap.size, 0, none⟩ = some (.int .i64 a0) ∧ X.cell? ⟨w.heap.size, 1, none⟩ = some (.int .i64 a1) ∧ X.cell? ⟨w.heap.size, 2, none⟩ = some (.int .i64 a2) ∧ X.cell? ⟨w.heap.size, 3, none⟩ = some (.int .i64 a3) ∧ X.cell? ⟨w.heap.size, 4, none⟩ = some (.int .i64 a4) ∧ X.cell? ⟨w.heap.size, 5, none⟩ = some (.int .i64 a5) ∧ X.cell? ⟨w.heap.size, 6, none⟩ = some (.int .i64 a6) ∧ X.cell? ⟨w.heap.size, 7, none⟩ = some (.int .i64 a7) ∧ X.cell? ⟨w.heap.size, 8, none⟩ = some (.int .i64 a8) ∧ X.cell? ⟨w.heap.size + 1, 0, none⟩ = some (.int .u8 k) ∧ X.cell? ⟨w.heap.size + 1, 1, none⟩ = some (.string key) ∧ X.cell? ⟨w.heap.size + 1, 2, none⟩ = some (.string too) ∧ X.cell? ⟨w.heap.size + 1, 3, none⟩ = some (.int .i64 n) ∧ X.cell? ⟨w.heap.size + 1, 4, none⟩ = some (.slice B len cap)) (exact KP.out _ (by go_grown))
    (first
      | (go_at_call 6; refine (live_any _).mono ?_; rintro e w1 ⟨rfl, hb⟩; have hbw : Below W.heap.size W w1 := Below.trans (by go_grown) (hb.mono (by first | assumption | (simp; done) | omega)); have hbs : W.heap.size ≤ w1.heap.size := hbw.size)
      | (go_at_call 7; (with_reducible refine (D1.out _).mono ?_); rintro e w1 ⟨rfl, hb⟩; have hbw : Below W.heap.size W w1 := Below.trans (by go_grown) (hb.mono (by first | assumption | (simp; done) | omega)); have hbs : W.heap.size ≤ w1.heap.size := hbw.size)
      | (go_at_call 8; (with_reducible refine (D2.out _).mono ?_); rintro e w1 ⟨rfl, hb⟩; have hbw : Below W.heap.size W w1 := Below.trans (by go_grown) (hb.mono (by first | assumption | (simp; done) | omega)); have hbs : W.heap.size ≤ w1.heap.size := hbw.size)
      | (go_at_call 9; (with_reducible refine (D3.out _ (MA.out _ (by go_grown))).mono ?_); rintro e w1 ⟨rfl, hb⟩; have hbw : Below W.heap.size W w1 := Below.trans (by go_grown) (hb.mono (by first | assumption | (simp; done) | omega)); have hbs : W.heap.size ≤ w1.heap.size := hbw.size)
      | (go_at_call 10; (with_reducible refine (D4.out _ (MA.out _ (by go_grown))).mono ?_); rintro e w1 ⟨rfl, hb⟩; have hbw : Below W.heap.size W w1 := Below.trans (by go_grown) (hb.mono (by first | assumption | (simp; done) | omega)); have hbs : W.heap.size ≤ w1.heap.size := hbw.size))
  all_goals
    go_wp2
    go_ret
    exact ⟨rfl, bel_step hW (by first | assumption | go_grown) (Nat.le_refl _)⟩
end Go.Proofs.Ytifikngmddfahaa
