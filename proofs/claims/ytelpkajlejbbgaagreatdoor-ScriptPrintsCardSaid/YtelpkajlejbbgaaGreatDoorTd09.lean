/- Texts of the proof, one behind the other. -/
import Derived.Test.YtelpkajlejbbgaaGreatDoorTd08
import Derived.Test.YtelpkajlejbbgaaGreatDoorTd07
import Derived.Test.YtelpkajlejbbgaaGreatDoorTd01
set_option linter.unusedVariables false
set_option linter.unusedSimpArgs false
namespace Go.Proofs.YtelpkajlejbbgaaGreatDoor
open Go.RowKit

theorem MsL.keep {w w' : World} {A : Option Addr} {l : List M} (h : MsL w w.heap.size A l) (hb : Below w.heap.size w w') : MsL w' w'.heap.size A l := by
  rcases h with h | ⟨b, off, hA, hlt, hc⟩
  · exact .inl h
  · refine .inr ⟨b, off, hA, Nat.lt_of_lt_of_le hlt hb.size, fun j hj => ?_⟩
    obtain ⟨g0, g1, g2, g3, g4, g5⟩ := hc j hj
    exact ⟨(bel_cell hb hlt).trans g0, (bel_cell hb hlt).trans g1, (bel_cell hb hlt).trans g2, (bel_cell hb hlt).trans g3, (bel_cell hb hlt).trans g4, (bel_cell hb hlt).trans g5⟩
set_option maxRecDepth 100000 in
set_option maxHeartbeats 4000000 in
theorem ask_no (k n a0 a1 a2 a3 a4 a5 a6 a7 a8 : Int) (key too : ByteArray) (B : Option Addr) (len cap : Nat) (l : List M) (w : World) (hl : l.length = len) (hA : MsL w w.heap.size B l) (hp : opureB k n key too len = false) :
    Calls Tryz.prog 31 #[.agg #[.int .u8 k, .string key, .string too, .int .i64 n, .slice B len cap], cfg a0 a1 a2 a3 a4 a5 a6 a7 a8] w fun e w' => e = .returned (.int .i64 3) ∧ Below w.heap.size w w' := by
  have HA := Lib.hid hA
  have P := fun W => opure_any k n key too B len cap W
  simp only [hp] at P
  have PP := Lib.hid P
  clear P hA
  clear hp
  go_enter Tryz.func31, Tryz.ntmps31
  go_wp2_with fail
  obtain ⟨W, hWW⟩ : ∃ W, W = (w.alloc (.cells #[.int .u8 k, .string key, .string too, .int .i64 n, .slice B len cap] 47)).alloc (.cells #[.int .i64 a0, .int .i64 a1, .int .i64 a2, .int .i64 a3, .int .i64 a4, .int .i64 a5, .int .i64 a6, .int .i64 a7, .int .i64 a8] 23) := ⟨_, rfl⟩
  have e0 : W.cell? ⟨w.heap.size, 0, none⟩ = some (.int .u8 k) := by rw [hWW]; simp [go_sem]
  have e1 : W.cell? ⟨w.heap.size, 1, none⟩ = some (.string key) := by rw [hWW]; simp [go_sem]
  have e2 : W.cell? ⟨w.heap.size, 2, none⟩ = some (.string too) := by rw [hWW]; simp [go_sem]
  have e3 : W.cell? ⟨w.heap.size, 3, none⟩ = some (.int .i64 n) := by rw [hWW]; simp [go_sem]
  have e4 : W.cell? ⟨w.heap.size, 4, none⟩ = some (.slice B len cap) := by rw [hWW]; simp [go_sem]
  have e5 : W.cell? ⟨w.heap.size + 1, 0, none⟩ = some (.int .i64 a0) := by rw [hWW]; simp [go_sem]
  have e6 : W.cell? ⟨w.heap.size + 1, 1, none⟩ = some (.int .i64 a1) := by rw [hWW]; simp [go_sem]
  have e7 : W.cell? ⟨w.heap.size + 1, 2, none⟩ = some (.int .i64 a2) := by rw [hWW]; simp [go_sem]
  have e8 : W.cell? ⟨w.heap.size + 1, 3, none⟩ = some (.int .i64 a3) := by rw [hWW]; simp [go_sem]
  have e9 : W.cell? ⟨w.heap.size + 1, 4, none⟩ = some (.int .i64 a4) := by rw [hWW]; simp [go_sem]
  have e10 : W.cell? ⟨w.heap.size + 1, 5, none⟩ = some (.int .i64 a5) := by rw [hWW]; simp [go_sem]
  have e11 : W.cell? ⟨w.heap.size + 1, 6, none⟩ = some (.int .i64 a6) := by rw [hWW]; simp [go_sem]
  have e12 : W.cell? ⟨w.heap.size + 1, 7, none⟩ = some (.int .i64 a7) := by rw [hWW]; simp [go_sem]
  have e13 : W.cell? ⟨w.heap.size + 1, 8, none⟩ = some (.int .i64 a8) := by rw [hWW]; simp [go_sem]
  have hW : Below w.heap.size w W := by rw [hWW]; go_grown
  rw [← hWW]
  clear hWW
  refine (PP.out _).mono ?_
  rintro e w1 ⟨rfl, hb⟩
  have d0 : w1.cell? ⟨w.heap.size, 0, none⟩ = some (.int .u8 k) := bel_later hb e0
  have d1 : w1.cell? ⟨w.heap.size, 1, none⟩ = some (.string key) := bel_later hb e1
  have d2 : w1.cell? ⟨w.heap.size, 2, none⟩ = some (.string too) := bel_later hb e2
  have d3 : w1.cell? ⟨w.heap.size, 3, none⟩ = some (.int .i64 n) := bel_later hb e3
  have d4 : w1.cell? ⟨w.heap.size, 4, none⟩ = some (.slice B len cap) := bel_later hb e4
  have d5 : w1.cell? ⟨w.heap.size + 1, 0, none⟩ = some (.int .i64 a0) := bel_later hb e5
  have d6 : w1.cell? ⟨w.heap.size + 1, 1, none⟩ = some (.int .i64 a1) := bel_later hb e6
  have d7 : w1.cell? ⟨w.heap.size + 1, 2, none⟩ = some (.int .i64 a2) := bel_later hb e7
  have d8 : w1.cell? ⟨w.heap.size + 1, 3, none⟩ = some (.int .i64 a3) := bel_later hb e8
  have d9 : w1.cell? ⟨w.heap.size + 1, 4, none⟩ = some (.int .i64 a4) := bel_later hb e9
  have d10 : w1.cell? ⟨w.heap.size + 1, 5, none⟩ = some (.int .i64 a5) := bel_later hb e10
  have d11 : w1.cell? ⟨w.heap.size + 1, 6, none⟩ = some (.int .i64 a6) := bel_later hb e11
  have d12 : w1.cell? ⟨w.heap.size + 1, 7, none⟩ = some (.int .i64 a7) := bel_later hb e12
  have d13 : w1.cell? ⟨w.heap.size + 1, 8, none⟩ = some (.int .i64 a8) := bel_later hb e13
  have hw1 : Below w.heap.size w w1 := bel_step hW hb (Nat.le_refl _)
  clear hb hW e0 e1 e2 e3 e4 e5 e6 e7 e8 e9 e10 e11 e12 e13
  go_wp2
  go_ret
  exact ⟨rfl, hw1⟩
set_option maxRecDepth 100000 in
set_option maxHeartbeats 4000000 in
theorem ask_1g (n a0 a1 a2 a3 a4 a5 a6 a7 a8 : Int) (key too : ByteArray) (B : Option Addr) (len cap : Nat) (l : List M) (w : World) (hl : l.length = len) (hA : MsL w w.heap.size B l) (hp : opureB 1 n key too len = true) (hR : rightS key a0 = true) :
    Calls Tryz.prog 31 #[.agg #[.int .u8 1, .string key, .string too, .int .i64 n, .slice B len cap], cfg a0 a1 a2 a3 a4 a5 a6 a7 a8] w fun e w' => e = .returned (.int .i64 0) ∧ Below w.heap.size w w' := by
  have HA := Lib.hid hA
  have P := fun W => opure_any 1 n key too B len cap W
  simp only [hp] at P
  have PP := Lib.hid P
  clear P hA
  clear hp
  have R := fun W => right_any key a0 W
  simp only [hR] at R
  have RR := Lib.hid R
  clear R hR
  go_enter Tryz.func31, Tryz.ntmps31
  go_wp2_with fail
  obtain ⟨W, hWW⟩ : ∃ W, W = (w.alloc (.cells #[.int .u8 1, .string key, .string too, .int .i64 n, .slice B len cap] 47)).alloc (.cells #[.int .i64 a0, .int .i64 a1, .int .i64 a2, .int .i64 a3, .int .i64 a4, .int .i64 a5, .int .i64 a6, .int .i64 a7, .int .i64 a8] 23) := ⟨_, rfl⟩
  have e0 : W.cell? ⟨w.heap.size, 0, none⟩ = some (.int .u8 1) := by rw [hWW]; simp [go_sem]
  have e1 : W.cell? ⟨w.heap.size, 1, none⟩ = some (.string key) := by rw [hWW]; simp [go_sem]
  have e2 : W.cell? ⟨w.heap.size, 2, none⟩ = some (.string too) := by rw [hWW]; simp [go_sem]
  have e3 : W.cell? ⟨w.heap.size, 3, none⟩ = some (.int .i64 n) := by rw [hWW]; simp [go_sem]
  have e4 : W.cell? ⟨w.heap.size, 4, none⟩ = some (.slice B len cap) := by rw [hWW]; simp [go_sem]
  have e5 : W.cell? ⟨w.heap.size + 1, 0, none⟩ = some (.int .i64 a0) := by rw [hWW]; simp [go_sem]
  have e6 : W.cell? ⟨w.heap.size + 1, 1, none⟩ = some (.int .i64 a1) := by rw [hWW]; simp [go_sem]
  have e7 : W.cell? ⟨w.heap.size + 1, 2, none⟩ = some (.int .i64 a2) := by rw [hWW]; simp [go_sem]
  have e8 : W.cell? ⟨w.heap.size + 1, 3, none⟩ = some (.int .i64 a3) := by rw [hWW]; simp [go_sem]
  have e9 : W.cell? ⟨w.heap.size + 1, 4, none⟩ = some (.int .i64 a4) := by rw [hWW]; simp [go_sem]
  have e10 : W.cell? ⟨w.heap.size + 1, 5, none⟩ = some (.int .i64 a5) := by rw [hWW]; simp [go_sem]
  have e11 : W.cell? ⟨w.heap.size + 1, 6, none⟩ = some (.int .i64 a6) := by rw [hWW]; simp [go_sem]
  have e12 : W.cell? ⟨w.heap.size + 1, 7, none⟩ = some (.int .i64 a7) := by rw [hWW]; simp [go_sem]
  have e13 : W.cell? ⟨w.heap.size + 1, 8, none⟩ = some (.int .i64 a8) := by rw [hWW]; simp [go_sem]
  have hW : Below w.heap.size w W := by rw [hWW]; go_grown
  rw [← hWW]
  clear hWW
  refine (PP.out _).mono ?_
  rintro e w1 ⟨rfl, hb⟩
  have d0 : w1.cell? ⟨w.heap.size, 0, none⟩ = some (.int .u8 1) := bel_later hb e0
  have d1 : w1.cell? ⟨w.heap.size, 1, none⟩ = some (.string key) := bel_later hb e1
  have d2 : w1.cell? ⟨w.heap.size, 2, none⟩ = some (.string too) := bel_later hb e2
  have d3 : w1.cell? ⟨w.heap.size, 3, none⟩ = some (.int .i64 n) := bel_later hb e3
  have d4 : w1.cell? ⟨w.heap.size, 4, none⟩ = some (.slice B len cap) := bel_later hb e4
  have d5 : w1.cell? ⟨w.heap.size + 1, 0, none⟩ = some (.int .i64 a0) := bel_later hb e5
  have d6 : w1.cell? ⟨w.heap.size + 1, 1, none⟩ = some (.int .i64 a1) := bel_later hb e6
  have d7 : w1.cell? ⟨w.heap.size + 1, 2, none⟩ = some (.int .i64 a2) := bel_later hb e7
  have d8 : w1.cell? ⟨w.heap.size + 1, 3, none⟩ = some (.int .i64 a3) := bel_later hb e8
  have d9 : w1.cell? ⟨w.heap.size + 1, 4, none⟩ = some (.int .i64 a4) := bel_later hb e9
  have d10 : w1.cell? ⟨w.heap.size + 1, 5, none⟩ = some (.int .i64 a5) := bel_later hb e10
  have d11 : w1.cell? ⟨w.heap.size + 1, 6, none⟩ = some (.int .i64 a6) := bel_later hb e11
  have d12 : w1.cell? ⟨w.heap.size + 1, 7, none⟩ = some (.int .i64 a7) := bel_later hb e12
  have d13 : w1.cell? ⟨w.heap.size + 1, 8, none⟩ = some (.int .i64 a8) := bel_later hb e13
  have hw1 : Below w.heap.size w w1 := bel_step hW hb (Nat.le_refl _)
  clear hb hW e0 e1 e2 e3 e4 e5 e6 e7 e8 e9 e10 e11 e12 e13
  go_wp2_with fail
  refine (RR.out _).mono ?_
  rintro e w2 ⟨rfl, rfl⟩
  go_wp2
  go_ret
  exact ⟨rfl, hw1⟩
set_option maxRecDepth 100000 in
set_option maxHeartbeats 4000000 in
theorem ask_1b (n a0 a1 a2 a3 a4 a5 a6 a7 a8 : Int) (key too : ByteArray) (B : Option Addr) (len cap : Nat) (l : List M) (w : World) (hl : l.length = len) (hA : MsL w w.heap.size B l) (hp : opureB 1 n key too len = true) (hR : rightS key a0 = false) :
    Calls Tryz.prog 31 #[.agg #[.int .u8 1, .string key, .string too, .int .i64 n, .slice B len cap], cfg a0 a1 a2 a3 a4 a5 a6 a7 a8] w fun e w' => e = .returned (.int .i64 6) ∧ Below w.heap.size w w' := by
  have HA := Lib.hid hA
  have P := fun W => opure_any 1 n key too B len cap W
  simp only [hp] at P
  have PP := Lib.hid P
  clear P hA
  clear hp
  have R := fun W => right_any key a0 W
  simp only [hR] at R
  have RR := Lib.hid R
  clear R hR
  go_enter Tryz.func31, Tryz.ntmps31
  go_wp2_with fail
  obtain ⟨W, hWW⟩ : ∃ W, W = (w.alloc (.cells #[.int .u8 1, .string key, .string too, .int .i64 n, .slice B len cap] 47)).alloc (.cells #[.int .i64 a0, .int .i64 a1, .int .i64 a2, .int .i64 a3, .int .i64 a4, .int .i64 a5, .int .i64 a6, .int .i64 a7, .int .i64 a8] 23) := ⟨_, rfl⟩
  have e0 : W.cell? ⟨w.heap.size, 0, none⟩ = some (.int .u8 1) := by rw [hWW]; simp [go_sem]
  have e1 : W.cell? ⟨w.heap.size, 1, none⟩ = some (.string key) := by rw [hWW]; simp [go_sem]
  have e2 : W.cell? ⟨w.heap.size, 2, none⟩ = some (.string too) := by rw [hWW]; simp [go_sem]
  have e3 : W.cell? ⟨w.heap.size, 3, none⟩ = some (.int .i64 n) := by rw [hWW]; simp [go_sem]
  have e4 : W.cell? ⟨w.heap.size, 4, none⟩ = some (.slice B len cap) := by rw [hWW]; simp [go_sem]
  have e5 : W.cell? ⟨w.heap.size + 1, 0, none⟩ = some (.int .i64 a0) := by rw [hWW]; simp [go_sem]
  have e6 : W.cell? ⟨w.heap.size + 1, 1, none⟩ = some (.int .i64 a1) := by rw [hWW]; simp [go_sem]
  have e7 : W.cell? ⟨w.heap.size + 1, 2, none⟩ = some (.int .i64 a2) := by rw [hWW]; simp [go_sem]
  have e8 : W.cell? ⟨w.heap.size + 1, 3, none⟩ = some (.int .i64 a3) := by rw [hWW]; simp [go_sem]
  have e9 : W.cell? ⟨w.heap.size + 1, 4, none⟩ = some (.int .i64 a4) := by rw [hWW]; simp [go_sem]
  have e10 : W.cell? ⟨w.heap.size + 1, 5, none⟩ = some (.int .i64 a5) := by rw [hWW]; simp [go_sem]
  have e11 : W.cell? ⟨w.heap.size + 1, 6, none⟩ = some (.int .i64 a6) := by rw [hWW]; simp [go_sem]
  have e12 : W.cell? ⟨w.heap.size + 1, 7, none⟩ = some (.int .i64 a7) := by rw [hWW]; simp [go_sem]
  have e13 : W.cell? ⟨w.heap.size + 1, 8, none⟩ = some (.int .i64 a8) := by rw [hWW]; simp [go_sem]
  have hW : Below w.heap.size w W := by rw [hWW]; go_grown
  rw [← hWW]
  clear hWW
  refine (PP.out _).mono ?_
  rintro e w1 ⟨rfl, hb⟩
  have d0 : w1.cell? ⟨w.heap.size, 0, none⟩ = some (.int .u8 1) := bel_later hb e0
  have d1 : w1.cell? ⟨w.heap.size, 1, none⟩ = some (.string key) := bel_later hb e1
  have d2 : w1.cell? ⟨w.heap.size, 2, none⟩ = some (.string too) := bel_later hb e2
  have d3 : w1.cell? ⟨w.heap.size, 3, none⟩ = some (.int .i64 n) := bel_later hb e3
  have d4 : w1.cell? ⟨w.heap.size, 4, none⟩ = some (.slice B len cap) := bel_later hb e4
  have d5 : w1.cell? ⟨w.heap.size + 1, 0, none⟩ = some (.int .i64 a0) := bel_later hb e5
  have d6 : w1.cell? ⟨w.heap.size + 1, 1, none⟩ = some (.int .i64 a1) := bel_later hb e6
  have d7 : w1.cell? ⟨w.heap.size + 1, 2, none⟩ = some (.int .i64 a2) := bel_later hb e7
  have d8 : w1.cell? ⟨w.heap.size + 1, 3, none⟩ = some (.int .i64 a3) := bel_later hb e8
  have d9 : w1.cell? ⟨w.heap.size + 1, 4, none⟩ = some (.int .i64 a4) := bel_later hb e9
  have d10 : w1.cell? ⟨w.heap.size + 1, 5, none⟩ = some (.int .i64 a5) := bel_later hb e10
  have d11 : w1.cell? ⟨w.heap.size + 1, 6, none⟩ = some (.int .i64 a6) := bel_later hb e11
  have d12 : w1.cell? ⟨w.heap.size + 1, 7, none⟩ = some (.int .i64 a7) := bel_later hb e12
  have d13 : w1.cell? ⟨w.heap.size + 1, 8, none⟩ = some (.int .i64 a8) := bel_later hb e13
  have hw1 : Below w.heap.size w w1 := bel_step hW hb (Nat.le_refl _)
  clear hb hW e0 e1 e2 e3 e4 e5 e6 e7 e8 e9 e10 e11 e12 e13
  go_wp2_with fail
  refine (RR.out _).mono ?_
  rintro e w2 ⟨rfl, rfl⟩
  go_wp2
  go_ret
  exact ⟨rfl, hw1⟩
set_option maxRecDepth 100000 in
set_option maxHeartbeats 4000000 in
theorem ask_2 (n a0 a1 a2 a3 a4 a5 a6 a7 a8 : Int) (key too : ByteArray) (B : Option Addr) (len cap : Nat) (l : List M) (w : World) (hl : l.length = len) (hA : MsL w w.heap.size B l) (hp : opureB 2 n key too len = true) :
    Calls Tryz.prog 31 #[.agg #[.int .u8 2, .string key, .string too, .int .i64 n, .slice B len cap], cfg a0 a1 a2 a3 a4 a5 a6 a7 a8] w fun e w' => e = .returned (.int .i64 (abF a0 a1 l)) ∧ Below w.heap.size w w' := by
  have HA := Lib.hid hA
  have P := fun W => opure_any 2 n key too B len cap W
  simp only [hp] at P
  have PP := Lib.hid P
  clear P hA
  clear hp
  have AB := Lib.hid (fun W h => askBatch_any a0 a1 a2 a3 a4 a5 a6 a7 a8 B len cap l W hl h)
  obtain ⟨r, hr⟩ : ∃ r, r = abF a0 a1 l := ⟨_, rfl⟩
  rw [← hr] at AB ⊢
  clear hr
  go_enter Tryz.func31, Tryz.ntmps31
  go_wp2_with fail
  obtain ⟨W, hWW⟩ : ∃ W, W = (w.alloc (.cells #[.int .u8 2, .string key, .string too, .int .i64 n, .slice B len cap] 47)).alloc (.cells #[.int .i64 a0, .int .i64 a1, .int .i64 a2, .int .i64 a3, .int .i64 a4, .int .i64 a5, .int .i64 a6, .int .i64 a7, .int .i64 a8] 23) := ⟨_, rfl⟩
  have e0 : W.cell? ⟨w.heap.size, 0, none⟩ = some (.int .u8 2) := by rw [hWW]; simp [go_sem]
  have e1 : W.cell? ⟨w.heap.size, 1, none⟩ = some (.string key) := by rw [hWW]; simp [go_sem]
  have e2 : W.cell? ⟨w.heap.size, 2, none⟩ = some (.string too) := by rw [hWW]; simp [go_sem]
  have e3 : W.cell? ⟨w.heap.size, 3, none⟩ = some (.int .i64 n) := by rw [hWW]; simp [go_sem]
  have e4 : W.cell? ⟨w.heap.size, 4, none⟩ = some (.slice B len cap) := by rw [hWW]; simp [go_sem]
  have e5 : W.cell? ⟨w.heap.size + 1, 0, none⟩ = some (.int .i64 a0) := by rw [hWW]; simp [go_sem]
  have e6 : W.cell? ⟨w.heap.size + 1, 1, none⟩ = some (.int .i64 a1) := by rw [hWW]; simp [go_sem]
  have e7 : W.cell? ⟨w.heap.size + 1, 2, none⟩ = some (.int .i64 a2) := by rw [hWW]; simp [go_sem]
  have e8 : W.cell? ⟨w.heap.size + 1, 3, none⟩ = some (.int .i64 a3) := by rw [hWW]; simp [go_sem]
  have e9 : W.cell? ⟨w.heap.size + 1, 4, none⟩ = some (.int .i64 a4) := by rw [hWW]; simp [go_sem]
  have e10 : W.cell? ⟨w.heap.size + 1, 5, none⟩ = some (.int .i64 a5) := by rw [hWW]; simp [go_sem]
  have e11 : W.cell? ⟨w.heap.size + 1, 6, none⟩ = some (.int .i64 a6) := by rw [hWW]; simp [go_sem]
  have e12 : W.cell? ⟨w.heap.size + 1, 7, none⟩ = some (.int .i64 a7) := by rw [hWW]; simp [go_sem]
  have e13 : W.cell? ⟨w.heap.size + 1, 8, none⟩ = some (.int .i64 a8) := by rw [hWW]; simp [go_sem]
  have hW : Below w.heap.size w W := by rw [hWW]; go_grown
  rw [← hWW]
  clear hWW
  refine (PP.out _).mono ?_
  rintro e w1 ⟨rfl, hb⟩
  have d0 : w1.cell? ⟨w.heap.size, 0, none⟩ = some (.int .u8 2) := bel_later hb e0
  have d1 : w1.cell? ⟨w.heap.size, 1, none⟩ = some (.string key) := bel_later hb e1
  have d2 : w1.cell? ⟨w.heap.size, 2, none⟩ = some (.string too) := bel_later hb e2
  have d3 : w1.cell? ⟨w.heap.size, 3, none⟩ = some (.int .i64 n) := bel_later hb e3
  have d4 : w1.cell? ⟨w.heap.size, 4, none⟩ = some (.slice B len cap) := bel_later hb e4
  have d5 : w1.cell? ⟨w.heap.size + 1, 0, none⟩ = some (.int .i64 a0) := bel_later hb e5
  have d6 : w1.cell? ⟨w.heap.size + 1, 1, none⟩ = some (.int .i64 a1) := bel_later hb e6
  have d7 : w1.cell? ⟨w.heap.size + 1, 2, none⟩ = some (.int .i64 a2) := bel_later hb e7
  have d8 : w1.cell? ⟨w.heap.size + 1, 3, none⟩ = some (.int .i64 a3) := bel_later hb e8
  have d9 : w1.cell? ⟨w.heap.size + 1, 4, none⟩ = some (.int .i64 a4) := bel_later hb e9
  have d10 : w1.cell? ⟨w.heap.size + 1, 5, none⟩ = some (.int .i64 a5) := bel_later hb e10
  have d11 : w1.cell? ⟨w.heap.size + 1, 6, none⟩ = some (.int .i64 a6) := bel_later hb e11
  have d12 : w1.cell? ⟨w.heap.size + 1, 7, none⟩ = some (.int .i64 a7) := bel_later hb e12
  have d13 : w1.cell? ⟨w.heap.size + 1, 8, none⟩ = some (.int .i64 a8) := bel_later hb e13
  have hw1 : Below w.heap.size w w1 := bel_step hW hb (Nat.le_refl _)
  clear hb hW e0 e1 e2 e3 e4 e5 e6 e7 e8 e9 e10 e11 e12 e13
  go_wp2_with fail
  refine (AB.out _ (HA.out.keep hw1)).mono ?_
  rintro e w2 ⟨rfl, hb2⟩
  have hw2 : Below w.heap.size w w2 := bel_step hw1 hb2 (Nat.le_refl _)
  go_wp2
  go_ret
  exact ⟨rfl, hw2⟩
set_option maxRecDepth 100000 in
set_option maxHeartbeats 4000000 in
theorem ask_3 (n a0 a1 a2 a3 a4 a5 a6 a7 a8 : Int) (key too : ByteArray) (B : Option Addr) (len cap : Nat) (l : List M) (w : World) (hl : l.length = len) (hA : MsL w w.heap.size B l) (hp : opureB 3 n key too len = true) :
    Calls Tryz.prog 31 #[.agg #[.int .u8 3, .string key, .string too, .int .i64 n, .slice B len cap], cfg a0 a1 a2 a3 a4 a5 a6 a7 a8] w fun e w' => e = .returned (.int .i64 (arF 3 n a0 a8 key too)) ∧ Below w.heap.size w w' := by
  have HA := Lib.hid hA
  have P := fun W => opure_any 3 n key too B len cap W
  simp only [hp] at P
  have PP := Lib.hid P
  clear P hA
  clear hp
  have AR := Lib.hid (fun W => askRange_any 3 n a0 a1 a2 a3 a4 a5 a6 a7 a8 key too B len cap W)
  obtain ⟨r, hr⟩ : ∃ r, r = arF 3 n a0 a8 key too := ⟨_, rfl⟩
  rw [← hr] at AR ⊢
  clear hr
  go_enter Tryz.func31, Tryz.ntmps31
  go_wp2_with fail
  obtain ⟨W, hWW⟩ : ∃ W, W = (w.alloc (.cells #[.int .u8 3, .string key, .string too, .int .i64 n, .slice B len cap] 47)).alloc (.cells #[.int .i64 a0, .int .i64 a1, .int .i64 a2, .int .i64 a3, .int .i64 a4, .int .i64 a5, .int .i64 a6, .int .i64 a7, .int .i64 a8] 23) := ⟨_, rfl⟩
  have e0 : W.cell? ⟨w.heap.size, 0, none⟩ = some (.int .u8 3) := by rw [hWW]; simp [go_sem]
  have e1 : W.cell? ⟨w.heap.size, 1, none⟩ = some (.string key) := by rw [hWW]; simp [go_sem]
  have e2 : W.cell? ⟨w.heap.size, 2, none⟩ = some (.string too) := by rw [hWW]; simp [go_sem]
  have e3 : W.cell? ⟨w.heap.size, 3, none⟩ = some (.int .i64 n) := by rw [hWW]; simp [go_sem]
  have e4 : W.cell? ⟨w.heap.size, 4, none⟩ = some (.slice B len cap) := by rw [hWW]; simp [go_sem]
  have e5 : W.cell? ⟨w.heap.size + 1, 0, none⟩ = some (.int .i64 a0) := by rw [hWW]; simp [go_sem]
  have e6 : W.cell? ⟨w.heap.size + 1, 1, none⟩ = some (.int .i64 a1) := by rw [hWW]; simp [go_sem]
  have e7 : W.cell? ⟨w.heap.size + 1, 2, none⟩ = some (.int .i64 a2) := by rw [hWW]; simp [go_sem]
  have e8 : W.cell? ⟨w.heap.size + 1, 3, none⟩ = some (.int .i64 a3) := by rw [hWW]; simp [go_sem]
  have e9 : W.cell? ⟨w.heap.size + 1, 4, none⟩ = some (.int .i64 a4) := by rw [hWW]; simp [go_sem]
  have e10 : W.cell? ⟨w.heap.size + 1, 5, none⟩ = some (.int .i64 a5) := by rw [hWW]; simp [go_sem]
  have e11 : W.cell? ⟨w.heap.size + 1, 6, none⟩ = some (.int .i64 a6) := by rw [hWW]; simp [go_sem]
  have e12 : W.cell? ⟨w.heap.size + 1, 7, none⟩ = some (.int .i64 a7) := by rw [hWW]; simp [go_sem]
  have e13 : W.cell? ⟨w.heap.size + 1, 8, none⟩ = some (.int .i64 a8) := by rw [hWW]; simp [go_sem]
  have hW : Below w.heap.size w W := by rw [hWW]; go_grown
  rw [← hWW]
  clear hWW
  refine (PP.out _).mono ?_
  rintro e w1 ⟨rfl, hb⟩
  have d0 : w1.cell? ⟨w.heap.size, 0, none⟩ = some (.int .u8 3) := bel_later hb e0
  have d1 : w1.cell? ⟨w.heap.size, 1, none⟩ = some (.string key) := bel_later hb e1
  have d2 : w1.cell? ⟨w.heap.size, 2, none⟩ = some (.string too) := bel_later hb e2
  have d3 : w1.cell? ⟨w.heap.size, 3, none⟩ = some (.int .i64 n) := bel_later hb e3
  have d4 : w1.cell? ⟨w.heap.size, 4, none⟩ = some (.slice B len cap) := bel_later hb e4
  have d5 : w1.cell? ⟨w.heap.size + 1, 0, none⟩ = some (.int .i64 a0) := bel_later hb e5
  have d6 : w1.cell? ⟨w.heap.size + 1, 1, none⟩ = some (.int .i64 a1) := bel_later hb e6
  have d7 : w1.cell? ⟨w.heap.size + 1, 2, none⟩ = some (.int .i64 a2) := bel_later hb e7
  have d8 : w1.cell? ⟨w.heap.size + 1, 3, none⟩ = some (.int .i64 a3) := bel_later hb e8
  have d9 : w1.cell? ⟨w.heap.size + 1, 4, none⟩ = some (.int .i64 a4) := bel_later hb e9
  have d10 : w1.cell? ⟨w.heap.size + 1, 5, none⟩ = some (.int .i64 a5) := bel_later hb e10
  have d11 : w1.cell? ⟨w.heap.size + 1, 6, none⟩ = some (.int .i64 a6) := bel_later hb e11
  have d12 : w1.cell? ⟨w.heap.size + 1, 7, none⟩ = some (.int .i64 a7) := bel_later hb e12
  have d13 : w1.cell? ⟨w.heap.size + 1, 8, none⟩ = some (.int .i64 a8) := bel_later hb e13
  have hw1 : Below w.heap.size w w1 := bel_step hW hb (Nat.le_refl _)
  clear hb hW e0 e1 e2 e3 e4 e5 e6 e7 e8 e9 e10 e11 e12 e13
  go_wp2_with fail
  refine (AR.out _).mono ?_
  rintro e w2 ⟨rfl, hb2⟩
  have hw2 : Below w.heap.size w w2 := bel_step hw1 hb2 (Nat.le_refl _)
  go_wp2
  go_ret
  exact ⟨rfl, hw2⟩
set_option maxRecDepth 100000 in
set_option maxHeartbeats 4000000 in
theorem ask_4 (n a0 a1 a2 a3 a4 a5 a6 a7 a8 : Int) (key too : ByteArray) (B : Option Addr) (len cap : Nat) (l : List M) (w : World) (hl : l.length = len) (hA : MsL w w.heap.size B l) (hp : opureB 4 n key too len = true) :
    Calls Tryz.prog 31 #[.agg #[.int .u8 4, .string key, .string too, .int .i64 n, .slice B len cap], cfg a0 a1 a2 a3 a4 a5 a6 a7 a8] w fun e w' => e = .returned (.int .i64 (arF 4 n a0 a8 key too)) ∧ Below w.heap.size w w' := by
  have HA := Lib.hid hA
  have P := fun W => opure_any 4 n key too B len cap W
  simp only [hp] at P
  have PP := Lib.hid P
  clear P hA
  clear hp
  have AR := Lib.hid (fun W => askRange_any 4 n a0 a1 a2 a3 a4 a5 a6 a7 a8 key too B len cap W)
  obtain ⟨r, hr⟩ : ∃ r, r = arF 4 n a0 a8 key too := ⟨_, rfl⟩
  rw [← hr] at AR ⊢
  clear hr
  go_enter Tryz.func31, Tryz.ntmps31
  go_wp2_with fail
  obtain ⟨W, hWW⟩ : ∃ W, W = (w.alloc (.cells #[.int .u8 4, .string key, .string too, .int .i64 n, .slice B len cap] 47)).alloc (.cells #[.int .i64 a0, .int .i64 a1, .int .i64 a2, .int .i64 a3, .int .i64 a4, .int .i64 a5, .int .i64 a6, .int .i64 a7, .int .i64 a8] 23) := ⟨_, rfl⟩
  have e0 : W.cell? ⟨w.heap.size, 0, none⟩ = some (.int .u8 4) := by rw [hWW]; simp [go_sem]
  have e1 : W.cell? ⟨w.heap.size, 1, none⟩ = some (.string key) := by rw [hWW]; simp [go_sem]
  have e2 : W.cell? ⟨w.heap.size, 2, none⟩ = some (.string too) := by rw [hWW]; simp [go_sem]
  have e3 : W.cell? ⟨w.heap.size, 3, none⟩ = some (.int .i64 n) := by rw [hWW]; simp [go_sem]
  have e4 : W.cell? ⟨w.heap.size, 4, none⟩ = some (.slice B len cap) := by rw [hWW]; simp [go_sem]
  have e5 : W.cell? ⟨w.heap.size + 1, 0, none⟩ = some (.int .i64 a0) := by rw [hWW]; simp [go_sem]
  have e6 : W.cell? ⟨w.heap.size + 1, 1, none⟩ = some (.int .i64 a1) := by rw [hWW]; simp [go_sem]
  have e7 : W.cell? ⟨w.heap.size + 1, 2, none⟩ = some (.int .i64 a2) := by rw [hWW]; simp [go_sem]
  have e8 : W.cell? ⟨w.heap.size + 1, 3, none⟩ = some (.int .i64 a3) := by rw [hWW]; simp [go_sem]
  have e9 : W.cell? ⟨w.heap.size + 1, 4, none⟩ = some (.int .i64 a4) := by rw [hWW]; simp [go_sem]
  have e10 : W.cell? ⟨w.heap.size + 1, 5, none⟩ = some (.int .i64 a5) := by rw [hWW]; simp [go_sem]
  have e11 : W.cell? ⟨w.heap.size + 1, 6, none⟩ = some (.int .i64 a6) := by rw [hWW]; simp [go_sem]
  have e12 : W.cell? ⟨w.heap.size + 1, 7, none⟩ = some (.int .i64 a7) := by rw [hWW]; simp [go_sem]
  have e13 : W.cell? ⟨w.heap.size + 1, 8, none⟩ = some (.int .i64 a8) := by rw [hWW]; simp [go_sem]
  have hW : Below w.heap.size w W := by rw [hWW]; go_grown
  rw [← hWW]
  clear hWW
  refine (PP.out _).mono ?_
  rintro e w1 ⟨rfl, hb⟩
  have d0 : w1.cell? ⟨w.heap.size, 0, none⟩ = some (.int .u8 4) := bel_later hb e0
  have d1 : w1.cell? ⟨w.heap.size, 1, none⟩ = some (.string key) := bel_later hb e1
  have d2 : w1.cell? ⟨w.heap.size, 2, none⟩ = some (.string too) := bel_later hb e2
  have d3 : w1.cell? ⟨w.heap.size, 3, none⟩ = some (.int .i64 n) := bel_later hb e3
  have d4 : w1.cell? ⟨w.heap.size, 4, none⟩ = some (.slice B len cap) := bel_later hb e4
  have d5 : w1.cell? ⟨w.heap.size + 1, 0, none⟩ = some (.int .i64 a0) := bel_later hb e5
  have d6 : w1.cell? ⟨w.heap.size + 1, 1, none⟩ = some (.int .i64 a1) := bel_later hb e6
  have d7 : w1.cell? ⟨w.heap.size + 1, 2, none⟩ = some (.int .i64 a2) := bel_later hb e7
  have d8 : w1.cell? ⟨w.heap.size + 1, 3, none⟩ = some (.int .i64 a3) := bel_later hb e8
  have d9 : w1.cell? ⟨w.heap.size + 1, 4, none⟩ = some (.int .i64 a4) := bel_later hb e9
  have d10 : w1.cell? ⟨w.heap.size + 1, 5, none⟩ = some (.int .i64 a5) := bel_later hb e10
  have d11 : w1.cell? ⟨w.heap.size + 1, 6, none⟩ = some (.int .i64 a6) := bel_later hb e11
  have d12 : w1.cell? ⟨w.heap.size + 1, 7, none⟩ = some (.int .i64 a7) := bel_later hb e12
  have d13 : w1.cell? ⟨w.heap.size + 1, 8, none⟩ = some (.int .i64 a8) := bel_later hb e13
  have hw1 : Below w.heap.size w w1 := bel_step hW hb (Nat.le_refl _)
  clear hb hW e0 e1 e2 e3 e4 e5 e6 e7 e8 e9 e10 e11 e12 e13
  go_wp2_with fail
  refine (AR.out _).mono ?_
  rintro e w2 ⟨rfl, hb2⟩
  have hw2 : Below w.heap.size w w2 := bel_step hw1 hb2 (Nat.le_refl _)
  go_wp2
  go_ret
  exact ⟨rfl, hw2⟩
set_option maxRecDepth 100000 in
set_option maxHeartbeats 4000000 in
theorem ask_o (k n a0 a1 a2 a3 a4 a5 a6 a7 a8 : Int) (key too : ByteArray) (B : Option Addr) (len cap : Nat) (l : List M) (w : World) (hl : l.length = len) (hA : MsL w w.heap.size B l) (hp : opureB k n key too len = true) (k1 : k ≠ 1) (k2 : k ≠ 2) (k3 : k ≠ 3) (k4 : k ≠ 4) :
    Calls Tryz.prog 31 #[.agg #[.int .u8 k, .string key, .string too, .int .i64 n, .slice B len cap], cfg a0 a1 a2 a3 a4 a5 a6 a7 a8] w fun e w' => e = .returned (.int .i64 0) ∧ Below w.heap.size w w' := by
  have HA := Lib.hid hA
  have P := fun W => opure_any k n key too B len cap W
  simp only [hp] at P
  have PP := Lib.hid P
  clear P hA
  clear hp
  go_enter Tryz.func31, Tryz.ntmps31
  go_wp2_with fail
  obtain ⟨W, hWW⟩ : ∃ W, W = (w.alloc (.cells #[.int .u8 k, .string key, .string too, .int .i64 n, .slice B len cap] 47)).alloc (.cells #[.int .i64 a0, .int .i64 a1, .int .i64 a2, .int .i64 a3, .int .i64 a4, .int .i64 a5, .int .i64 a6, .int .i64 a7, .int .i64 a8] 23) := ⟨_, rfl⟩
  have e0 : W.cell? ⟨w.heap.size, 0, none⟩ = some (.int .u8 k) := by rw [hWW]; simp [go_sem]
  have e1 : W.cell? ⟨w.heap.size, 1, none⟩ = some (.string key) := by rw [hWW]; simp [go_sem]
  have e2 : W.cell? ⟨w.heap.size, 2, none⟩ = some (.string too) := by rw [hWW]; simp [go_sem]
  have e3 : W.cell? ⟨w.heap.size, 3, none⟩ = some (.int .i64 n) := by rw [hWW]; simp [go_sem]
  have e4 : W.cell? ⟨w.heap.size, 4, none⟩ = some (.slice B len cap) := by rw [hWW]; simp [go_sem]
  have e5 : W.cell? ⟨w.heap.size + 1, 0, none⟩ = some (.int .i64 a0) := by rw [hWW]; simp [go_sem]
  have e6 : W.cell? ⟨w.heap.size + 1, 1, none⟩ = some (.int .i64 a1) := by rw [hWW]; simp [go_sem]
  have e7 : W.cell? ⟨w.heap.size + 1, 2, none⟩ = some (.int .i64 a2) := by rw [hWW]; simp [go_sem]
  have e8 : W.cell? ⟨w.heap.size + 1, 3, none⟩ = some (.int .i64 a3) := by rw [hWW]; simp [go_sem]
  have e9 : W.cell? ⟨w.heap.size + 1, 4, none⟩ = some (.int .i64 a4) := by rw [hWW]; simp [go_sem]
  have e10 : W.cell? ⟨w.heap.size + 1, 5, none⟩ = some (.int .i64 a5) := by rw [hWW]; simp [go_sem]
  have e11 : W.cell? ⟨w.heap.size + 1, 6, none⟩ = some (.int .i64 a6) := by rw [hWW]; simp [go_sem]
  have e12 : W.cell? ⟨w.heap.size + 1, 7, none⟩ = some (.int .i64 a7) := by rw [hWW]; simp [go_sem]
  have e13 : W.cell? ⟨w.heap.size + 1, 8, none⟩ = some (.int .i64 a8) := by rw [hWW]; simp [go_sem]
  have hW : Below w.heap.size w W := by rw [hWW]; go_grown
  rw [← hWW]
  clear hWW
  refine (PP.out _).mono ?_
  rintro e w1 ⟨rfl, hb⟩
  have d0 : w1.cell? ⟨w.heap.size, 0, none⟩ = some (.int .u8 k) := bel_later hb e0
  have d1 : w1.cell? ⟨w.heap.size, 1, none⟩ = some (.string key) := bel_later hb e1
  have d2 : w1.cell? ⟨w.heap.size, 2, none⟩ = some (.string too) := bel_later hb e2
  have d3 : w1.cell? ⟨w.heap.size, 3, none⟩ = some (.int .i64 n) := bel_later hb e3
  have d4 : w1.cell? ⟨w.heap.size, 4, none⟩ = some (.slice B len cap) := bel_later hb e4
  have d5 : w1.cell? ⟨w.heap.size + 1, 0, none⟩ = some (.int .i64 a0) := bel_later hb e5
  have d6 : w1.cell? ⟨w.heap.size + 1, 1, none⟩ = some (.int .i64 a1) := bel_later hb e6
  have d7 : w1.cell? ⟨w.heap.size + 1, 2, none⟩ = some (.int .i64 a2) := bel_later hb e7
  have d8 : w1.cell? ⟨w.heap.size + 1, 3, none⟩ = some (.int .i64 a3) := bel_later hb e8
  have d9 : w1.cell? ⟨w.heap.size + 1, 4, none⟩ = some (.int .i64 a4) := bel_later hb e9
  have d10 : w1.cell? ⟨w.heap.size + 1, 5, none⟩ = some (.int .i64 a5) := bel_later hb e10
  have d11 : w1.cell? ⟨w.heap.size + 1, 6, none⟩ = some (.int .i64 a6) := bel_later hb e11
  have d12 : w1.cell? ⟨w.heap.size + 1, 7, none⟩ = some (.int .i64 a7) := bel_later hb e12
  have d13 : w1.cell? ⟨w.heap.size + 1, 8, none⟩ = some (.int .i64 a8) := bel_later hb e13
  have hw1 : Below w.heap.size w w1 := bel_step hW hb (Nat.le_refl _)
  clear hb hW e0 e1 e2 e3 e4 e5 e6 e7 e8 e9 e10 e11 e12 e13
  go_wp2
  go_ret
  exact ⟨rfl, hw1⟩

/-- What an operation is answered that is asked. -/
def askF (k n a0 a1 a8 : Int) (key too : ByteArray) (len : Nat) (l : List M) : Int :=
  if opureB k n key too len = false then 3
  else if k = 1 then (if rightS key a0 = true then 0 else 6)
  else if k = 2 then abF a0 a1 l
  else if k = 3 then arF 3 n a0 a8 key too
  else if k = 4 then arF 4 n a0 a8 key too
  else 0
theorem ask_any (k n a0 a1 a2 a3 a4 a5 a6 a7 a8 : Int) (key too : ByteArray) (B : Option Addr) (len cap : Nat) (l : List M) (w : World) (hl : l.length = len) (hA : MsL w w.heap.size B l) :
    Calls Tryz.prog 31 #[.agg #[.int .u8 k, .string key, .string too, .int .i64 n, .slice B len cap], cfg a0 a1 a2 a3 a4 a5 a6 a7 a8] w fun e w' => e = .returned (.int .i64 (askF k n a0 a1 a8 key too len l)) ∧ Below w.heap.size w w' := by
  unfold askF
  by_cases hp : opureB k n key too len = false
  · rw [if_pos hp]; exact ask_no k n a0 a1 a2 a3 a4 a5 a6 a7 a8 key too B len cap l w hl hA hp
  rw [if_neg hp]
  have hp' : opureB k n key too len = true := by simpa using hp
  by_cases k1 : k = 1
  · subst k1; rw [if_pos rfl]
    by_cases hR : rightS key a0 = true
    · rw [if_pos hR]; exact ask_1g n a0 a1 a2 a3 a4 a5 a6 a7 a8 key too B len cap l w hl hA hp' hR
    · rw [if_neg hR]; exact ask_1b n a0 a1 a2 a3 a4 a5 a6 a7 a8 key too B len cap l w hl hA hp' (by simpa using hR)
  rw [if_neg k1]
  by_cases k2 : k = 2
  · subst k2; rw [if_pos rfl]; exact ask_2 n a0 a1 a2 a3 a4 a5 a6 a7 a8 key too B len cap l w hl hA hp'
  rw [if_neg k2]
  by_cases k3 : k = 3
  · subst k3; rw [if_pos rfl]; exact ask_3 n a0 a1 a2 a3 a4 a5 a6 a7 a8 key too B len cap l w hl hA hp'
  rw [if_neg k3]
  by_cases k4 : k = 4
  · subst k4; rw [if_pos rfl]; exact ask_4 n a0 a1 a2 a3 a4 a5 a6 a7 a8 key too B len cap l w hl hA hp'
  rw [if_neg k4]
  exact ask_o k n a0 a1 a2 a3 a4 a5 a6 a7 a8 key too B len cap l w hl hA hp' k1 k2 k3 k4
end Go.Proofs.YtelpkajlejbbgaaGreatDoor
namespace Go.Proofs.YtelpkajlejbbgaaGreatDoor
open Go.RowKit

set_option maxRecDepth 100000 in
set_option maxHeartbeats 4000000 in
theorem zero_1 (n : Int) (key too : ByteArray) (B : Option Addr) (len cap : Nat) (w : World) :
    Calls Tryz.prog 59 #[.agg #[.int .u8 1, .string key, .string too, .int .i64 n, .slice B len cap]] w fun e w' => e = .returned (.bool (opureB 1 n key too len)) ∧ Below w.heap.size w w' := by
  obtain ⟨r, hr⟩ : ∃ r, r = opureB 1 n key too len := ⟨_, rfl⟩
  rw [← hr]
  have HR := Lib.hid hr
  clear hr
  go_enter Tryz.func59, Tryz.ntmps59
  go_wp2
  all_goals
    go_ret
    refine ⟨?_, by go_grown⟩
    rw [HR.out]
    have hbq : ((len : Int) == 0) = (len == 0) := by rw [Bool.eq_iff_iff]; simp
    clear HR
    first
    | (simp_all [opureB, emp]; done)
    | (simp [opureB, emp, *]; done)
    | (trace_state; fail)
set_option maxRecDepth 100000 in
set_option maxHeartbeats 4000000 in
theorem zero_2 (n : Int) (key too : ByteArray) (B : Option Addr) (len cap : Nat) (w : World) :
    Calls Tryz.prog 59 #[.agg #[.int .u8 2, .string key, .string too, .int .i64 n, .slice B len cap]] w fun e w' => e = .returned (.bool (opureB 2 n key too len)) ∧ Below w.heap.size w w' := by
  obtain ⟨r, hr⟩ : ∃ r, r = opureB 2 n key too len := ⟨_, rfl⟩
  rw [← hr]
  have HR := Lib.hid hr
  clear hr
  go_enter Tryz.func59, Tryz.ntmps59
  go_wp2
  all_goals
    go_ret
    refine ⟨?_, by go_grown⟩
    rw [HR.out]
    have hbq : ((len : Int) == 0) = (len == 0) := by rw [Bool.eq_iff_iff]; simp
    clear HR
    first
    | (simp_all [opureB, emp]; done)
    | (simp [opureB, emp, *]; done)
    | (trace_state; fail)
set_option maxRecDepth 100000 in
set_option maxHeartbeats 4000000 in
theorem zero_3 (n : Int) (key too : ByteArray) (B : Option Addr) (len cap : Nat) (w : World) :
    Calls Tryz.prog 59 #[.agg #[.int .u8 3, .string key, .string too, .int .i64 n, .slice B len cap]] w fun e w' => e = .returned (.bool (opureB 3 n key too len)) ∧ Below w.heap.size w w' := by
  obtain ⟨r, hr⟩ : ∃ r, r = opureB 3 n key too len := ⟨_, rfl⟩
  rw [← hr]
  have HR := Lib.hid hr
  clear hr
  go_enter Tryz.func59, Tryz.ntmps59
  go_wp2
  all_goals
    go_ret
    refine ⟨?_, by go_grown⟩
    rw [HR.out]
    have hbq : ((len : Int) == 0) = (len == 0) := by rw [Bool.eq_iff_iff]; simp
    clear HR
    first
    | (simp_all [opureB, emp]; done)
    | (simp [opureB, emp, *]; done)
    | (trace_state; fail)
set_option maxRecDepth 100000 in
set_option maxHeartbeats 4000000 in
theorem zero_4 (n : Int) (key too : ByteArray) (B : Option Addr) (len cap : Nat) (w : World) :
    Calls Tryz.prog 59 #[.agg #[.int .u8 4, .string key, .string too, .int .i64 n, .slice B len cap]] w fun e w' => e = .returned (.bool (opureB 4 n key too len)) ∧ Below w.heap.size w w' := by
  obtain ⟨r, hr⟩ : ∃ r, r = opureB 4 n key too len := ⟨_, rfl⟩
  rw [← hr]
  have HR := Lib.hid hr
  clear hr
  go_enter Tryz.func59, Tryz.ntmps59
  go_wp2
  all_goals
    go_ret
    refine ⟨?_, by go_grown⟩
    rw [HR.out]
    have hbq : ((len : Int) == 0) = (len == 0) := by rw [Bool.eq_iff_iff]; simp
    clear HR
    first
    | (simp_all [opureB, emp]; done)
    | (simp [opureB, emp, *]; done)
    | (trace_state; fail)
set_option maxRecDepth 100000 in
set_option maxHeartbeats 4000000 in
theorem zero_5 (n : Int) (key too : ByteArray) (B : Option Addr) (len cap : Nat) (w : World) :
    Calls Tryz.prog 59 #[.agg #[.int .u8 5, .string key, .string too, .int .i64 n, .slice B len cap]] w fun e w' => e = .returned (.bool (opureB 5 n key too len)) ∧ Below w.heap.size w w' := by
  obtain ⟨r, hr⟩ : ∃ r, r = opureB 5 n key too len := ⟨_, rfl⟩
  rw [← hr]
  have HR := Lib.hid hr
  clear hr
  go_enter Tryz.func59, Tryz.ntmps59
  go_wp2
  all_goals
    go_ret
    refine ⟨?_, by go_grown⟩
    rw [HR.out]
    have hbq : ((len : Int) == 0) = (len == 0) := by rw [Bool.eq_iff_iff]; simp
    clear HR
    first
    | (simp_all [opureB, emp]; done)
    | (simp [opureB, emp, *]; done)
    | (trace_state; fail)
set_option maxRecDepth 100000 in
set_option maxHeartbeats 4000000 in
theorem zero_6 (n : Int) (key too : ByteArray) (B : Option Addr) (len cap : Nat) (w : World) :
    Calls Tryz.prog 59 #[.agg #[.int .u8 6, .string key, .string too, .int .i64 n, .slice B len cap]] w fun e w' => e = .returned (.bool (opureB 6 n key too len)) ∧ Below w.heap.size w w' := by
  obtain ⟨r, hr⟩ : ∃ r, r = opureB 6 n key too len := ⟨_, rfl⟩
  rw [← hr]
  have HR := Lib.hid hr
  clear hr
  go_enter Tryz.func59, Tryz.ntmps59
  go_wp2
  all_goals
    go_ret
    refine ⟨?_, by go_grown⟩
    rw [HR.out]
    have hbq : ((len : Int) == 0) = (len == 0) := by rw [Bool.eq_iff_iff]; simp
    clear HR
    first
    | (simp_all [opureB, emp]; done)
    | (simp [opureB, emp, *]; done)
    | (trace_state; fail)
theorem zero_any (k n : Int) (key too : ByteArray) (B : Option Addr) (len cap : Nat) (w : World) (h1 : 1 ≤ k) (h2 : k ≤ 6) :
    Calls Tryz.prog 59 #[.agg #[.int .u8 k, .string key, .string too, .int .i64 n, .slice B len cap]] w fun e w' => e = .returned (.bool (opureB k n key too len)) ∧ Below w.heap.size w w' := by
  rcases (by omega : k = 1 ∨ k = 2 ∨ k = 3 ∨ k = 4 ∨ k = 5 ∨ k = 6) with rfl | rfl | rfl | rfl | rfl | rfl
  · exact zero_1 n key too B len cap w
  · exact zero_2 n key too B len cap w
  · exact zero_3 n key too B len cap w
  · exact zero_4 n key too B len cap w
  · exact zero_5 n key too B len cap w
  · exact zero_6 n key too B len cap w
end Go.Proofs.YtelpkajlejbbgaaGreatDoor
namespace Go.Proofs.YtelpkajlejbbgaaGreatDoor

theorem bl_irr : ∀ x : List UInt8, Op.bytesLess x x = false
  | [] => rfl
  | a :: x => by simp [Op.bytesLess, bl_irr x, UInt8.lt_iff_toNat_lt]

theorem bl_tri : ∀ x y : List UInt8, Op.bytesLess x y = true ∨ x = y ∨ Op.bytesLess y x = true
  | [], [] => .inr (.inl rfl)
  | [], _ :: _ => .inl rfl
  | _ :: _, [] => .inr (.inr rfl)
  | a :: x, b :: y => by
    rcases Nat.lt_trichotomy a.toNat b.toNat with h | h | h
    · left; simp [Op.bytesLess, UInt8.lt_iff_toNat_lt, h]
    · have e : a = b := UInt8.toNat_inj.1 h
      subst e
      rcases bl_tri x y with k | k | k
      · left; simp [Op.bytesLess, k]
      · right; left; rw [k]
      · right; right; simp [Op.bytesLess, k]
    · right; right; simp [Op.bytesLess, UInt8.lt_iff_toNat_lt, h]

theorem bl_trans : ∀ x y z : List UInt8, Op.bytesLess x y = true → Op.bytesLess y z = true → Op.bytesLess x z = true
  | _, [], _ => by simp [Op.bytesLess]
  | _, _ :: _, [] => by simp [Op.bytesLess]
  | [], _ :: _, _ :: _ => by simp [Op.bytesLess]
  | a :: x, b :: y, c :: z => by
    intro h k
    simp only [Op.bytesLess, Bool.or_eq_true, decide_eq_true_eq, Bool.and_eq_true, beq_iff_eq, UInt8.lt_iff_toNat_lt] at h k ⊢
    rcases h with h | ⟨rfl, h⟩
    · rcases k with k | ⟨rfl, k⟩
      · left; omega
      · left; exact h
    · rcases k with k | ⟨rfl, k⟩
      · left; exact k
      · right; exact ⟨rfl, bl_trans x y z h k⟩

theorem bl_asymm (x y : List UInt8) (h : Op.bytesLess x y = true) : Op.bytesLess y x = false := by
  cases k : Op.bytesLess y x with
  | false => rfl
  | true => have := bl_trans _ _ _ h k; rw [bl_irr] at this; cases this

theorem bl_le (x y : List UInt8) : (Op.bytesLess x y || x == y) = !Op.bytesLess y x := by
  rcases bl_tri x y with h | h | h
  · rw [h, bl_asymm _ _ h]; rfl
  · subst h; simp [bl_irr]
  · rw [bl_asymm _ _ h, h]
    have : (x == y) = false := by
      cases k : x == y with
      | false => rfl
      | true => rw [beq_iff_eq] at k; subst k; rw [bl_irr] at h; cases h
    rw [this]; rfl

theorem bl_ge (x y : List UInt8) : (Op.bytesLess x y = true ∨ (x == y) = true) ↔ Op.bytesLess y x = false := by
  have h := bl_le x y
  rw [← Bool.or_eq_true, h]; simp
theorem bl_gt (x y : List UInt8) : (Op.bytesLess x y = false ∧ (x == y) = false) ↔ Op.bytesLess y x = true := by
  have h := bl_le x y
  rw [← Bool.or_eq_false_iff, h]; simp
end Go.Proofs.YtelpkajlejbbgaaGreatDoor
