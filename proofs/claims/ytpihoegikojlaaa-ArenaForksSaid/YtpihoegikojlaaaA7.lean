/- Arenas of numbers: live. -/
import Derived.Test.YtpihoegikojlaaaA6
namespace Go.Proofs.Ytpihoegikojlaaa
set_option linter.unusedSimpArgs false
open Go.RowKit
set_option linter.unusedVariables false

theorem AI_bel {w w' : World} {base N n m : Nat} {M : Int} {pl gs : List Value} (h : AI w base N M n pl m gs) (hb : Below w.heap.size w w') : AI w' base N M n pl m gs := by
  obtain ⟨A, c, G, d, h0, h1, h2, f1, f2, o1, o2, e1, e2, e3, hbN, hbw, m0, m1, m2, m3⟩ := h
  have hl := World.block_lt_of_cell? w _ h1
  exact ⟨A, c, G, d, bel_later hb h0, bel_later hb h1, bel_later hb h2, (bel_frozen hb hl).trans f1, (bel_frozen hb hl).trans f2, own_bel o1 hb, own_bel o2 hb, e1, e2, e3, hbN, Nat.le_trans hbw hb.size, m0, m1, m2, m3⟩

theorem lenI_AI {N base n m : Nat} {M : Int} {pl gs : List Value} {w : World} (h : AI w base N M n pl m gs) :
    Calls Try.prog 15 #[.pointer (some ⟨N, 0, none⟩)] w fun e w' => e = .returned (.int .i64 ((n : Int) - m)) ∧ Below w.heap.size w w' := by
  obtain ⟨A, c, G, d, h0, h1, h2, f1, f2, o1, o2, e1, e2, e3, hbN, hbw, m0, m1, m2, m3⟩ := h
  exact lenI_at N n m c d A G w h1 h2 (by omega) (by omega)
theorem leftI_AI {N base n m : Nat} {M : Int} {pl gs : List Value} {w : World} (h : AI w base N M n pl m gs) :
    Calls Try.prog 9 #[.pointer (some ⟨N, 0, none⟩)] w fun e w' => e = .returned (.int .i64 (M - ((n : Int) - m))) ∧ Below w.heap.size w w' := by
  obtain ⟨A, c, G, d, h0, h1, h2, f1, f2, o1, o2, e1, e2, e3, hbN, hbw, m0, m1, m2, m3⟩ := h
  exact leftI_at N n m c d M A G w h0 h1 h2 (by omega) (by omega) (by omega) (by omega)
theorem topI_AI {N base n m : Nat} {M : Int} {pl gs : List Value} {w : World} (h : AI w base N M n pl m gs) :
    Calls Try.prog 32 #[.pointer (some ⟨N, 0, none⟩)] w fun e w' => e = .returned (.int .i64 n) ∧ w = w' := by
  obtain ⟨A, c, G, d, h0, h1, h2, f1, f2, o1, o2, e1, e2, e3, hbN, hbw, m0, m1, m2, m3⟩ := h
  exact topI_at N n c A w h1
theorem getI_AI {N base n m i : Nat} {M s : Int} {pl gs : List Value} {w : World} (h : AI w base N M n pl m gs) (hi : i < n) (hs : pl[i * 2]? = some (.int .i64 s)) (ht : pl[i * 2 + 1]? = some (.bool true)) :
    Calls Try.prog 22 #[.pointer (some ⟨N, 0, none⟩), .int .i64 ((i : Int) + 1)] w fun e w' => e = .returned (.tuple #[.int .i64 s, .bool true]) ∧ w = w' := by
  obtain ⟨A, c, G, d, h0, h1, h2, f1, f2, o1, o2, e1, e2, e3, hbN, hbw, m0, m1, m2, m3⟩ := h
  obtain ⟨g, c', hA, hbg, hgl⟩ := o1.form (by omega)
  obtain ⟨rfl, rfl⟩ : A = some ⟨g, 0, none⟩ ∧ c = c' := by injection hA with a b c; exact ⟨a, c⟩
  exact getI_in N n c g i s w h1 hi (by omega) (by rw [o1.cellAt _ (by omega), ht]) (by rw [o1.cellAt _ (by omega), hs])

/-- An arena that was just made. -/
theorem AI_new (w : World) (M : Int) (h0 : 0 ≤ M) (h1 : M ≤ 4096) : AI (w.alloc (.cells #[.int .i64 M, .slice none 0 0, .slice none 0 0] 61)) w.heap.size w.heap.size M 0 [] 0 [] := by
  refine ⟨none, 0, none, 0, ?_, ?_, ?_, ?_, ?_, World.ownsRow_nil _ _ _ _, World.ownsRow_nil _ _ _ _, by simp [Value.ownBlock], by simp [Value.ownBlock], by simp [Value.ownBlock], Nat.le_refl _, by simp, h0, h1, by omega, by omega⟩ <;> simp [go_sem]

set_option maxRecDepth 100000 in
set_option maxHeartbeats 4000000 in
theorem live_any (w : World) :
    Calls Try.prog 8 #[] w fun e w' => e = .returned (.bool true) ∧ Below w.heap.size w w' := by
  obtain ⟨N, hN⟩ : ∃ N, N = w.heap.size := ⟨_, rfl⟩
  have c0 := Lib.hid (newI_ok 2 w (by omega) (by omega))
  have a0 := Lib.hid (AI_new w 2 (by omega) (by omega))
  have C1 : Hid (∀ W, AI W N N 2 0 [] 0 [] → Calls Try.prog 14 #[.pointer (some ⟨N, 0, none⟩), .int .i64 5] W fun e w' => e = .returned (.tuple #[.int .i64 1, .int .i64 0]) ∧ AI w' N N 2 1 [.int .i64 5, .bool true] 0 [] ∧ Below N W w') :=
    Lib.hid (fun W h => takeI_fresh N N 0 2 5 [] W h (by decide) (by decide))
  have C2 : Hid (∀ W, AI W N N 2 1 [.int .i64 5, .bool true] 0 [] → Calls Try.prog 14 #[.pointer (some ⟨N, 0, none⟩), .int .i64 6] W fun e w' => e = .returned (.tuple #[.int .i64 2, .int .i64 0]) ∧ AI w' N N 2 2 [.int .i64 5, .bool true, .int .i64 6, .bool true] 0 [] ∧ Below N W w') :=
    Lib.hid (fun W h => takeI_fresh N N 1 2 6 _ W h (by decide) (by decide))
  have C3 : Hid (∀ W, AI W N N 2 2 [.int .i64 5, .bool true, .int .i64 6, .bool true] 0 [] → Calls Try.prog 14 #[.pointer (some ⟨N, 0, none⟩), .int .i64 7] W fun e w' => e = .returned (.tuple #[.int .i64 0, .int .i64 9]) ∧ Below W.heap.size W w') :=
    Lib.hid (fun W h => takeI_full N N 2 0 2 7 _ _ W h (by decide))
  have C4 : Hid (∀ W, AI W N N 2 2 [.int .i64 5, .bool true, .int .i64 6, .bool true] 0 [] → Calls Try.prog 21 #[.pointer (some ⟨N, 0, none⟩), .int .i64 1] W fun e w' => e = .returned (.int .i64 0) ∧ AI w' N N 2 2 [.int .i64 0, .bool false, .int .i64 6, .bool true] 1 [.int .i64 1] ∧ Below N W w') :=
    Lib.hid (fun W h => giveI N N 2 0 0 2 _ _ W h (by decide) rfl (by decide))
  have C5 : Hid (∀ W, AI W N N 2 2 [.int .i64 0, .bool false, .int .i64 6, .bool true] 1 [.int .i64 1] → Calls Try.prog 14 #[.pointer (some ⟨N, 0, none⟩), .int .i64 8] W fun e w' => e = .returned (.tuple #[.int .i64 1, .int .i64 0]) ∧ AI w' N N 2 2 [.int .i64 8, .bool true, .int .i64 6, .bool true] 0 [] ∧ Below N W w') :=
    Lib.hid (fun W h => takeI_back N N 2 0 0 2 8 _ [] W h rfl (by decide) (by decide))
  have C6 : Hid (∀ W, AI W N N 2 2 [.int .i64 8, .bool true, .int .i64 6, .bool true] 0 [] → Calls Try.prog 22 #[.pointer (some ⟨N, 0, none⟩), .int .i64 1] W fun e w' => e = .returned (.tuple #[.int .i64 8, .bool true]) ∧ W = w') :=
    Lib.hid (fun W h => getI_AI (i := 0) h (by decide) rfl rfl)
  have C7 : Hid (∀ W, AI W N N 2 2 [.int .i64 8, .bool true, .int .i64 6, .bool true] 0 [] → Calls Try.prog 15 #[.pointer (some ⟨N, 0, none⟩)] W fun e w' => e = .returned (.int .i64 2) ∧ Below W.heap.size W w') :=
    Lib.hid (fun W h => lenI_AI h)
  have C8 : Hid (∀ W, AI W N N 2 2 [.int .i64 8, .bool true, .int .i64 6, .bool true] 0 [] → Calls Try.prog 9 #[.pointer (some ⟨N, 0, none⟩)] W fun e w' => e = .returned (.int .i64 0) ∧ Below W.heap.size W w') :=
    Lib.hid (fun W h => leftI_AI h)
  subst hN
  go_enter Try.func8, Try.ntmps8
  go_wp2_with fail
  refine c0.out.mono ?_
  rintro e w1 ⟨rfl, hw1⟩
  have x1 : Hid (AI w1 w.heap.size w.heap.size 2 0 [] 0 []) := Lib.hid (by rw [hw1]; exact a0.out)
  have hb1 : Hid (Below w.heap.size w w1) := Lib.hid (by rw [hw1]; go_grown)
  clear hw1 a0 c0
  go_wp2_with fail
  refine (C1.out _ x1.out).mono ?_
  rintro e w2 ⟨rfl, x2', hb2'⟩
  have x2 := Lib.hid x2'
  have hb2 := Lib.hid (hb1.out.trans hb2')
  clear x2' hb2' x1 hb1
  go_wp2_with fail
  refine (C2.out _ x2.out).mono ?_
  rintro e w3 ⟨rfl, x3', hb3'⟩
  have x3 := Lib.hid x3'
  have hb3 := Lib.hid (hb2.out.trans hb3')
  clear x3' hb3' x2 hb2
  go_wp2_with fail
  refine (C3.out _ x3.out).mono ?_
  rintro e w4 ⟨rfl, hb4'⟩
  have x4 := Lib.hid (AI_bel x3.out hb4')
  have hb4 := Lib.hid (hb3.out.trans (hb4'.mono (by have := hb3.out.size; omega)))
  clear hb4' x3 hb3
  go_wp2_with fail
  refine (C4.out _ x4.out).mono ?_
  rintro e w5 ⟨rfl, x5', hb5'⟩
  have x5 := Lib.hid x5'
  have hb5 := Lib.hid (hb4.out.trans hb5')
  clear x5' hb5' x4 hb4
  go_wp2_with fail
  refine (C5.out _ x5.out).mono ?_
  rintro e w6 ⟨rfl, x6', hb6'⟩
  have x6 := Lib.hid x6'
  have hb6 := Lib.hid (hb5.out.trans hb6')
  clear x6' hb6' x5 hb5
  go_wp2_with fail
  refine (C6.out _ x6.out).mono ?_
  rintro e w7 ⟨rfl, rfl⟩
  go_wp2_with fail
  refine (C7.out _ x6.out).mono ?_
  rintro e w8 ⟨rfl, hb8'⟩
  have x8 := Lib.hid (AI_bel x6.out hb8')
  have hb8 := Lib.hid (hb6.out.trans (hb8'.mono (by have := hb6.out.size; omega)))
  clear hb8' x6 hb6
  go_wp2_with fail
  refine (C8.out _ x8.out).mono ?_
  rintro e w9 ⟨rfl, hb9'⟩
  have hb9 := Lib.hid (hb8.out.trans (hb9'.mono (by have := hb8.out.size; omega)))
  clear hb9' x8 hb8
  go_wp2
  go_ret
  exact ⟨rfl, hb9.out⟩
end Go.Proofs.Ytpihoegikojlaaa
