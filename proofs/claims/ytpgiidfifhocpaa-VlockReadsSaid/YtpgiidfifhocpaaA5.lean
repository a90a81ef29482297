/- The law VlockReads answers true. -/
import Derived.Test.YtpgiidfifhocpaaA4
import Derived.Deep.RegionHeld3
import Derived.Deep.RegionWith
namespace Go.Proofs.Ytpgiidfifhocpaa
set_option linter.unusedSimpArgs false
open Go.RowKit
set_option linter.unusedVariables false
attribute [local go_sem] iss

theorem begin_valid (v o : Int) (g : Bool) (h : beginE v o g = 0) : validN v o g (beginN v o g) = 0 := by
  unfold beginE at h; unfold validN beginN
  cases g <;> simp_all

theorem keepAll {b : Nat} {x y z : Value} {w W w' : World} (h : Below w.heap.size w W ∧ W.cell? ⟨b, 0, none⟩ = some x ∧ W.cell? ⟨b, 1, none⟩ = some y ∧ W.cell? ⟨b, 2, none⟩ = some z) (hb : Below W.heap.size W w') :
    Below w.heap.size w w' ∧ w'.cell? ⟨b, 0, none⟩ = some x ∧ w'.cell? ⟨b, 1, none⟩ = some y ∧ w'.cell? ⟨b, 2, none⟩ = some z := by
  obtain ⟨h1, h2, h3, h4⟩ := h
  have hlt : b < W.heap.size := World.block_lt_of_cell? W _ h2
  exact ⟨h1.trans (hb.mono h1.size), (hb.cell (p := ⟨b, 0, none⟩) hlt).trans h2, (hb.cell (p := ⟨b, 1, none⟩) hlt).trans h3, (hb.cell (p := ⟨b, 2, none⟩) hlt).trans h4⟩
set_option maxHeartbeats 1000000 in
theorem reads_ok (v o : Int) (g : Bool) (ver : Int) (w : World) (h : beginE v o g = 0) :
    Calls Try.prog 4 #[.agg #[.int .i64 v, .int .i64 o, .bool g], .int .i64 ver] w fun e w' => e = .returned (.bool true) ∧ Below w.heap.size w w' := by
  have hv := begin_valid v o g h
  have h1 : (beginE v o g != 0) = false := by simp [h]
  have h2 : (validN v o g (beginN v o g) == 0) = true := by simp [hv]
  clear h hv
  go_enter Try.func4, Try.ntmps4
  go_wp2_with fail
  refine (begin_any v o g _).mono ?_
  rintro e w1 ⟨rfl, hb⟩
  obtain ⟨c0, c1, c2, f0, f1, f2⟩ := keep3 hb w.heap.size (.int .i64 v) (.int .i64 o) (.bool g) (by simp [go_sem]) (by simp [go_sem]) (by simp [go_sem]) (by simp [go_sem]) (by simp [go_sem]) (by simp [go_sem])
  have hc1 : Below w.heap.size w w1 := ((Below.refl _ _).alloc (Nat.le_refl _) _).trans (hb.mono (by simp))
  clear hb
  go_wp2_with fail
  refine (rbegin_any v o g _).mono ?_
  rintro e w2 ⟨rfl, hb⟩
  obtain ⟨d0, d1, d2, e0, e1, e2⟩ := keep3 hb w.heap.size (.int .i64 v) (.int .i64 o) (.bool g) c0 c1 c2 f0 f1 f2
  have hc2 : Below w.heap.size w w2 := hc1.trans (hb.mono hc1.size)
  clear hb hc1 c0 c1 c2 f0 f1 f2
  obtain ⟨c0, c1, c2, f0, f1, f2⟩ := (⟨d0, d1, d2, e0, e1, e2⟩ : _ ∧ _ ∧ _ ∧ _ ∧ _ ∧ _)
  have hd := hc2.drew
  go_wp2_with fail
  go_region_held3 (fun W => Below w.heap.size w W ∧ W.cell? ⟨w.heap.size, 0, none⟩ = some (.int .i64 v) ∧ W.cell? ⟨w.heap.size, 1, none⟩ = some (.int .i64 o) ∧ W.cell? ⟨w.heap.size, 2, none⟩ = some (.bool g)) (first | go_keep | exact keepAll (by assumption) (by assumption))
    (first | (go_at_call 20; refine (live_any _).mono ?_; rintro e w' ⟨rfl, hb⟩) | (go_at_call 24; refine (rvalid_any v o g ver _).mono ?_; rintro e w' ⟨rfl, hb⟩) | (go_at_call 23; refine (valid_any _ _ _ _ _).mono ?_; rintro e w' ⟨rfl, hb⟩))
  go_wp2_with fail
  go_ret
  exact ⟨rfl, by have hq := (by assumption : Below w.heap.size w w' ∧ _); exact hq.1⟩
end Go.Proofs.Ytpgiidfifhocpaa
