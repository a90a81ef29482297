/- What must be whatever is asked. -/
import Derived.Test.YtpijaphcknoobaaY5
import Derived.Test.YtpijaphcknoobaaIX5
namespace Go.Proofs.Ytpijaphcknoobaa
set_option linter.unusedSimpArgs false
open Go.RowKit Go.Shelf
set_option linter.unusedVariables false

theorem rd_block {W : World} {b : Nat} {cs : Array Value} {t : TypeId} {fr : Nat × Nat} (h : W.heap[b]? = some (.cells cs t fr)) : Rd W W.heap.size (some ⟨b, 0, none⟩) cs.toList :=
  .inr ⟨b, 0, rfl, (Array.getElem?_eq_some_iff.1 h).1, fun j u hj => by rw [Nat.zero_add, cell_at h j]; simpa using hj⟩
abbrev l1 : List TT := [(1, 0), (3, 0)]
abbrev l2 : List TT := [(2, 0), (3, 1)]
abbrev l3 : List TT := [(1, 0), (2, 0), (3, 0), (3, 1)]
theorem l_sorted : ∀ l ∈ [l1, l2], Srt l := by
  intro l hl
  rcases List.mem_cons.1 hl with rfl | hl
  · simp [Srt]
  · rcases List.mem_cons.1 hl with rfl | hl
    · simp [Srt]
    · simp at hl
theorem l_merged : sortL [] [l1, l2].flatten = l3 := by decide
set_option maxRecDepth 100000 in
set_option maxHeartbeats 4000000 in
theorem live_any (w : World) : Calls Try.prog 8 #[] w fun e w' => e = .returned (.bool true) ∧ Below w.heap.size w w' := by
  obtain ⟨W1, hW1⟩ : ∃ W1, W1 = w.alloc (.cells #[.int .i64 1, .int .i64 0, .int .i64 3, .int .i64 0] 29) := ⟨_, rfl⟩
  obtain ⟨W2, hW2⟩ : ∃ W2, W2 = W1.alloc (.cells #[.int .i64 2, .int .i64 0, .int .i64 3, .int .i64 1] 29) := ⟨_, rfl⟩
  obtain ⟨W3, hW3⟩ : ∃ W3, W3 = W2.alloc (.cells #[.slice (some ⟨w.heap.size, 0, none⟩) 2 2, .slice (some ⟨w.heap.size + 1, 0, none⟩) 2 2] 26) := ⟨_, rfl⟩
  have b1 : Below w.heap.size w W1 := by rw [hW1]; exact bel_alloc (Below.refl _ _) _
  have b2 : Below W1.heap.size W1 W2 := by rw [hW2]; exact bel_alloc (Below.refl _ _) _
  have b3 : Below W2.heap.size W2 W3 := by rw [hW3]; exact bel_alloc (Below.refl _ _) _
  have s1 : W1.heap.size = w.heap.size + 1 := by rw [hW1]; simp
  have s2 : W2.heap.size = w.heap.size + 2 := by rw [hW2]; simp [s1]
  have h1 : W1.heap[w.heap.size]? = some (.cells #[.int .i64 1, .int .i64 0, .int .i64 3, .int .i64 0] 29 (0, 0)) := by rw [hW1]; exact World.alloc_heap_new w _
  have h2 : W2.heap[w.heap.size + 1]? = some (.cells #[.int .i64 2, .int .i64 0, .int .i64 3, .int .i64 1] 29 (0, 0)) := by rw [hW2, ← s1]; exact World.alloc_heap_new W1 _
  have h3 : W3.heap[w.heap.size + 2]? = some (.cells #[.slice (some ⟨w.heap.size, 0, none⟩) 2 2, .slice (some ⟨w.heap.size + 1, 0, none⟩) 2 2] 26 (0, 0)) := by rw [hW3, ← s2]; exact World.alloc_heap_new W2 _
  have hS : Sls W3 [.slice (some ⟨w.heap.size, 0, none⟩) 2 2, .slice (some ⟨w.heap.size + 1, 0, none⟩) 2 2] [l1, l2] := by
    refine ⟨rfl, fun i ys hi => ?_⟩
    match i, hi with
    | 0, hi => cases hi; exact ⟨_, rfl, _, _, rfl, by decide, by decide, Rd.later (Rd.later (rd_block h1) b2) b3⟩
    | 1, hi => cases hi; exact ⟨_, rfl, _, _, rfl, by decide, by decide, Rd.later (rd_block h2) b3⟩
    | n + 2, hi => simp at hi
  have hM := merge_any ⟨w.heap.size + 2, 0, none⟩ 2 2 [l1, l2] _ rfl (by decide) W3 (rd_block h3) hS l_sorted
  rw [l_merged] at hM
  have HM := Lib.hid hM
  have HB3 : Hid (Below w.heap.size w W3) := Lib.hid (bel_trans (bel_trans b1 b2) b3)
  clear hM hS h1 h2 h3 s1 s2 b1 b2 b3
  subst hW1 hW2 hW3
  go_enter Try.func8, Try.ntmps8
  go_wp2_with fail
  refine (HM.out).mono ?_
  rintro e w1 ⟨lb, rfl, hb1, hs1⟩
  have HB1 := Lib.hid (bel_trans HB3.out hb1)
  have HL := Lib.hid (list_any (enters_of Try.func33 (by kernel_rfl) rfl) hs1 (Below.refl _ _) (by decide))
  clear hb1 hs1 HM
  go_wp2_with fail
  refine (HL.out).mono ?_
  rintro e w2 ⟨A, c, rfl, hr, hb2⟩
  obtain ⟨b, off, rfl, hlt, f0, f1⟩ := rdt_get hr (k := 1) (x := (2, 0)) rfl
  obtain ⟨_, _, e2, _, f2, f3⟩ := rdt_get hr (k := 2) (x := (3, 0)) rfl
  cases e2
  obtain ⟨_, _, e2, _, f4, f5⟩ := rdt_get hr (k := 3) (x := (3, 1)) rfl
  cases e2
  have HB2 := Lib.hid (bel_trans HB1.out hb2)
  clear hr hb2 HL
  simp only [Nat.reduceMul] at f0 f1 f2 f3 f4 f5
  have hb4 : Below w2.heap.size w2 (w2.alloc (.cells #[.int .i64 7, .int .i64 8] 3)) := bel_alloc (Below.refl _ _) _
  have HO := Lib.hid (I.of_any (some ⟨w2.heap.size, 0, none⟩) 2 2 [7, 8] rfl (by decide) (w2.alloc (.cells #[.int .i64 7, .int .i64 8] 3)) (rd_block (World.alloc_heap_new w2 (.cells #[.int .i64 7, .int .i64 8] 3))))
  have HB4 := Lib.hid (bel_trans HB2.out hb4)
  clear hb4
  go_wp2_with fail
  refine (HO.out).mono ?_
  rintro e w4 ⟨lb4, rfl, hb5, hs5⟩
  have HB5 := Lib.hid (bel_trans HB4.out hb5)
  have HL := Lib.hid (I.list_any (enters_of Try.func51 (by kernel_rfl) rfl) hs5 (Below.refl _ _) (by decide))
  clear hb5 hs5 HO
  go_wp2_with fail
  refine (HL.out).mono ?_
  rintro e w5 ⟨A5, c5, rfl, hr5, hb6⟩
  have HB6 := Lib.hid (bel_trans HB5.out hb6)
  clear hb6 hr5 HL
  go_wp2
  go_ret
  exact ⟨rfl, HB6.out⟩
end Go.Proofs.Ytpijaphcknoobaa
