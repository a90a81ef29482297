/- All, as a promise to every loop over it. -/
import Derived.Test.YtfgohbhacldlmaaI3
import Derived.Test.YtfgohbhacldlmaaT7
namespace Go.Proofs.Ytfgohbhacldlmaa
set_option linter.unusedSimpArgs false
open Go.RowKit Go.Shelf
set_option linter.unusedVariables false

/-- What All and From hand back. -/
abbrev SeqPost (w : World) (L : List (ByteArray × Int)) (e : Ending) (w' : World) : Prop := ∃ lb, e = .returned (.func (.func 49) #[] lb) ∧ Below w.heap.size w w' ∧
  ∀ X : Nat → Prop, (∀ k, X k → k < w.heap.size ∧ w'.cell? ⟨k, 1, none⟩ = none ∧ w'.cell? ⟨k, 2, none⟩ = none) → SeqL Try.prog 49 lb encP (fun ys => ys = L) (fun pre => pre <+: L) L.length w'.heap.size X w'
abbrev pw (w : World) (q p : Option Addr) : World := (w.alloc (.cells #[.pointer q] 63)).alloc (.cells #[.pointer p] 63)
theorem pw_below (w : World) (q p : Option Addr) : Below w.heap.size w (pw w q p) := bel_alloc (bel_alloc (Below.refl _ _) _) _
theorem pw_cells (w : World) (q p : Option Addr) : (pw w q p).cell? ⟨w.heap.size, 0, none⟩ = some (.pointer q) ∧ (pw w q p).cell? ⟨w.heap.size + 1, 0, none⟩ = some (.pointer p) := ⟨by simp [pw, go_sem], by simp [pw, go_sem]⟩
set_option maxHeartbeats 1000000 in
theorem pairs_any (q p : Option Addr) (w : World) : Calls Try.prog 39 #[.pointer q, .pointer p] w fun e w' => e = .returned (.func (.func 49) #[] #[.pointer (some ⟨w.heap.size, 0, none⟩), .pointer (some ⟨w.heap.size + 1, 0, none⟩)]) ∧ w' = pw w q p := by
  go_enter Try.func39, Try.ntmps39
  go_wp2
  exact bodyPost_ret (v := .func (.func 49) #[] #[.pointer (some ⟨w.heap.size, 0, none⟩), .pointer (some ⟨w.heap.size + 1, 0, none⟩)]) (by simp [results, Try.results39, go_sem]) rfl ⟨rfl, rfl⟩
theorem pairs_nil (p : Option Addr) (T : Tr ByteArray Int) (w : World) (h : IsT w p T) : Calls Try.prog 39 #[.pointer none, .pointer p] w (SeqPost w T.inorder) :=
  (pairs_any none p w).mono fun e w' ⟨he, hw⟩ => ⟨_, he, by rw [hw]; exact pw_below _ _ _, fun X hX => by
    subst hw
    have hs : (pw w none p).heap.size = w.heap.size + 2 := by simp [pw]
    exact pairs1_nil (pw w none p) (pw w none p) X (fun k hk => ⟨by have := (hX k hk).1; omega, (hX k hk).2⟩) _ _ (fun h => by have := (hX _ h).1; omega) (fun h => by have := (hX _ h).1; omega) p T (h.later (pw_below _ _ _)) (pw_cells _ _ _).1 (pw_cells _ _ _).2 (Below.refl _ _)⟩
set_option maxHeartbeats 1000000 in
theorem all_any (N : Nat) (L : List (ByteArray × Int)) (w : World) (h : MapIs w N L) : Calls Try.prog 37 #[.pointer (some ⟨N, 0, none⟩)] w (SeqPost w L) := by
  obtain ⟨p, T, h1, h2, rfl⟩ := h
  have c0 := h1.cell
  have C := Lib.hid (pairs_nil p T w h2)
  clear h1 h2
  go_enter Try.func37, Try.ntmps37
  go_wp2_with (go_at_call 39; with_reducible refine C.out.mono ?_; rintro e w1 ⟨lb, rfl, hb, hs⟩)
  exact bodyPost_ret (v := .func (.func 49) #[] lb) (by simp [results, Try.results37, go_sem]) rfl ⟨lb, rfl, hb, hs⟩
end Go.Proofs.Ytfgohbhacldlmaa
