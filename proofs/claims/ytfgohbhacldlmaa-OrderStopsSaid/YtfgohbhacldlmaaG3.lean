/- Maps of texts: From, and a nil map. -/
import Derived.Test.YtfgohbhacldlmaaG2
import Derived.Test.YtfgohbhacldlmaaI4
import Derived.Test.YtfgohbhacldlmaaT9
import Derived.Test.YtfgohbhacldlmaaG1
namespace Go.Proofs.Ytfgohbhacldlmaa
set_option linter.unusedSimpArgs false
open Go.RowKit Go.Shelf
set_option linter.unusedVariables false

theorem pairs_some (b0 : Nat) (k0 : ByteArray) (v0 : Int) (p : Option Addr) (T : Tr ByteArray Int) (w : World) (h : IsT w p T) (g0 : w.cell? ⟨b0, 0, none⟩ = some (.string k0)) (g1 : w.cell? ⟨b0, 1, none⟩ = some (.int .i64 v0)) : Calls Try.prog 39 #[.pointer (some ⟨b0, 0, none⟩), .pointer p] w (SeqPost w ((k0, v0) :: T.inorder)) :=
  (pairs_any _ p w).mono fun e w' ⟨he, hw⟩ => ⟨_, he, by rw [hw]; exact pw_below _ _ _, fun X hX => by
    subst hw
    have hs : (pw w (some ⟨b0, 0, none⟩) p).heap.size = w.heap.size + 2 := by simp [pw]
    have hb := pw_below w (some ⟨b0, 0, none⟩) p
    exact pairs1_some (pw w (some ⟨b0, 0, none⟩) p) (pw w (some ⟨b0, 0, none⟩) p) X (fun k hk => ⟨by have := (hX k hk).1; omega, (hX k hk).2⟩) _ _ (fun h => by have := (hX _ h).1; omega) (fun h => by have := (hX _ h).1; omega) p T (h.later hb) b0 k0 v0 (bel_later hb g0) (bel_later hb g1) (pw_cells _ _ _).1 (pw_cells _ _ _).2 (Below.refl _ _)⟩
/-- The pairs that are not below a key. -/
def fromL (k : ByteArray) (L : List (ByteArray × Int)) : List (ByteArray × Int) := atk ltS k L ++ above ltS k L
theorem seq_from {w w1 : World} (hb : Below w.heap.size w w1) {L : List (ByteArray × Int)} {e : Ending} {w' : World} (h : SeqPost w1 L e w') : SeqPost w L e w' := by
  obtain ⟨lb, he, h1, h2⟩ := h
  exact ⟨lb, he, bel_trans hb h1, fun X hX => h2 X (fun k hk => ⟨Nat.lt_of_lt_of_le (hX k hk).1 hb.size, (hX k hk).2⟩)⟩
set_option maxHeartbeats 2000000 in
theorem from_any (N : Nat) (L : List (ByteArray × Int)) (k : ByteArray) (w : World) (h : MapIs w N L) (hs : Srt ltS L) (hn : L.length ≤ 1000) : Calls Try.prog 20 #[.pointer (some ⟨N, 0, none⟩), .string k] w (SeqPost w (fromL k L)) := by
  obtain ⟨p, T, h1, h2, rfl⟩ := h
  have c0 := h1.cell
  have C := Lib.hid (split_any k T p w h2 hs (by omega))
  rcases hp : atk ltS k T.inorder with _ | ⟨x, rest⟩
  · have HP := Lib.hid hp
    clear h1 h2 hs hn hp
    go_enter Try.func20, Try.ntmps20
    go_wp2_with (first
      | (go_at_call 40; with_reducible refine C.out.mono ?_; clear C; rintro e w1 ⟨⟨q1, q2, q3, T1, T3, rfl, t1, e1, a2, t3, e3⟩, b1⟩; obtain rfl := a2.nil HP.out; have J := Lib.hid ((pairs_nil q3 T3 w1 t3).mono (fun e w' h => seq_from b1 h)); have E := Lib.hid e3; clear t1 t3 a2 e1 e3 b1)
      | (go_at_call 39; with_reducible refine J.out.mono ?_; clear J; rintro e w2 ⟨lb, rfl, hb, hs⟩)
      | fail)
    rw [E.out] at hs
    exact bodyPost_ret (v := .func (.func 49) #[] lb) (by simp [results, Try.results20, go_sem]) rfl ⟨lb, rfl, hb, by unfold fromL; rw [HP.out, List.nil_append]; exact hs⟩
  · have HP := Lib.hid hp
    clear h1 h2 hs hn hp
    go_enter Try.func20, Try.ntmps20
    go_wp2_with (first
      | (go_at_call 40; with_reducible refine C.out.mono ?_; clear C; rintro e w1 ⟨⟨q1, q2, q3, T1, T3, rfl, t1, e1, a2, t3, e3⟩, b1⟩; obtain ⟨bb, rfl, rfl, f0, f1⟩ := a2.cons HP.out; have J := Lib.hid ((pairs_some bb x.1 x.2 q3 T3 w1 t3 f0 f1).mono (fun e w' h => seq_from b1 h)); have E := Lib.hid e3; clear t1 t3 a2 e1 e3 b1)
      | (go_at_call 39; with_reducible refine J.out.mono ?_; clear J; rintro e w2 ⟨lb, rfl, hb, hs⟩)
      | fail)
    rw [E.out] at hs
    exact bodyPost_ret (v := .func (.func 49) #[] lb) (by simp [results, Try.results20, go_sem]) rfl ⟨lb, rfl, hb, by unfold fromL; rw [HP.out]; exact hs⟩
set_option maxHeartbeats 1000000 in
theorem all_nil (w : World) : Calls Try.prog 37 #[.pointer none] w (SeqPost w []) := by
  have C := Lib.hid (pairs_nil none .leaf w rfl)
  go_enter Try.func37, Try.ntmps37
  go_wp2_with (go_at_call 39; with_reducible refine C.out.mono ?_; rintro e w1 ⟨lb, rfl, hb, hs⟩)
  exact bodyPost_ret (v := .func (.func 49) #[] lb) (by simp [results, Try.results37, go_sem]) rfl ⟨lb, rfl, hb, hs⟩
set_option maxHeartbeats 1000000 in
theorem from_nil (k : ByteArray) (w : World) : Calls Try.prog 20 #[.pointer none, .string k] w (SeqPost w []) := by
  have C := Lib.hid (pairs_nil none .leaf w rfl)
  go_enter Try.func20, Try.ntmps20
  go_wp2_with (go_at_call 39; with_reducible refine C.out.mono ?_; rintro e w1 ⟨lb, rfl, hb, hs⟩)
  exact bodyPost_ret (v := .func (.func 49) #[] lb) (by simp [results, Try.results20, go_sem]) rfl ⟨lb, rfl, hb, hs⟩
theorem nil_get (k : ByteArray) (w : World) : Calls Try.prog 26 #[.pointer none, .string k] w fun e w' => e = .returned (.tuple #[.int .i64 0, .bool false]) ∧ w = w' := by
  go_enter Try.func26, Try.ntmps26
  go_wp2
  exact bodyPost_ret (v := .tuple #[.int .i64 0, .bool false]) (by simp [results, Try.results26, go_sem]) rfl ⟨rfl, rfl⟩
theorem nil_at (i : Int) (w : World) : Calls Try.prog 16 #[.pointer none, .int .i64 i] w fun e w' => e = .returned (.tuple #[.string ⟨#[]⟩, .int .i64 0, .bool false]) ∧ w = w' := by
  go_enter Try.func16, Try.ntmps16
  go_wp2
  exact bodyPost_ret (v := .tuple #[.string ⟨#[]⟩, .int .i64 0, .bool false]) (by simp [results, Try.results16, go_sem]) rfl ⟨rfl, rfl⟩
theorem nil_put (k : ByteArray) (v : Int) (w : World) : Calls Try.prog 27 #[.pointer none, .string k, .int .i64 v] w fun e w' => e = .returned (.bool false) ∧ w = w' := by
  go_enter Try.func27, Try.ntmps27
  go_wp2
  exact bodyPost_ret (v := .bool false) (by simp [results, Try.results27, go_sem]) rfl ⟨rfl, rfl⟩
theorem nil_drop (k : ByteArray) (w : World) : Calls Try.prog 28 #[.pointer none, .string k] w fun e w' => e = .returned (.bool false) ∧ w = w' := by
  go_enter Try.func28, Try.ntmps28
  go_wp2
  exact bodyPost_ret (v := .bool false) (by simp [results, Try.results28, go_sem]) rfl ⟨rfl, rfl⟩
theorem nil_cut (k t : ByteArray) (w : World) : Calls Try.prog 29 #[.pointer none, .string k, .string t] w fun e w' => e = .returned (.int .i64 0) ∧ w = w' := by
  go_enter Try.func29, Try.ntmps29
  go_wp2
  exact bodyPost_ret (v := .int .i64 0) (by simp [results, Try.results29, go_sem]) rfl ⟨rfl, rfl⟩
theorem nil_len (w : World) : Calls Try.prog 11 #[.pointer none] w fun e w' => e = .returned (.int .i64 0) ∧ w = w' := by
  go_enter Try.func11, Try.ntmps11
  go_wp2
  exact bodyPost_ret (v := .int .i64 0) (by simp [results, Try.results11, go_sem]) rfl ⟨rfl, rfl⟩
theorem nil_place (k : ByteArray) (w : World) : Calls Try.prog 17 #[.pointer none, .string k] w fun e w' => e = .returned (.int .i64 0) ∧ w = w' := by
  go_enter Try.func17, Try.ntmps17
  go_wp2
  exact bodyPost_ret (v := .int .i64 0) (by simp [results, Try.results17, go_sem]) rfl ⟨rfl, rfl⟩
theorem nil_fork (w : World) : Calls Try.prog 18 #[.pointer none] w fun e w' => e = .returned (.pointer none) ∧ w = w' := by
  go_enter Try.func18, Try.ntmps18
  go_wp2
  exact bodyPost_ret (v := .pointer none) (by simp [results, Try.results18, go_sem]) rfl ⟨rfl, rfl⟩
end Go.Proofs.Ytfgohbhacldlmaa
