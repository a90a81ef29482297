/- survey of the one tree. -/
import Derived.Test.YtniffjjkjgfacaaY8
namespace Go.Proofs.Ytniffjjkjgfacaa
set_option linter.unusedSimpArgs false
open Go.RowKit Go.Maps Go.Shelf
set_option linter.unusedVariables false
theorem tnode1 (b kb : Nat) (w : World) (hT : TreeAt w b kb) : Calls Try.prog 57 #[TV b, .int .i64 1] w fun e w' => e = .returned (.tuple #[N1 kb, .bool true]) ∧ Below w.heap.size w w' :=
  node_2 b 0 3 3 1 none (some ⟨kb, 0, none⟩) none none 0 1 0 0 0 1 0 0 w (Array.getElem?_eq_some_iff.1 hT.1).1 (by omega) (by omega) (by omega) ⟨tree_cells hT 5 _ rfl, tree_cells hT 6 _ rfl, tree_cells hT 7 _ rfl, tree_cells hT 8 _ rfl, tree_cells hT 9 _ rfl⟩
theorem tnode2 (b kb : Nat) (w : World) (hT : TreeAt w b kb) : Calls Try.prog 57 #[TV b, .int .i64 2] w fun e w' => e = .returned (.tuple #[.agg #[.int .u8 1, S0, S0, S0, S0], .bool true]) ∧ Below w.heap.size w w' :=
  node_1 b 0 3 3 2 none none none none 0 0 0 0 0 0 0 0 w (Array.getElem?_eq_some_iff.1 hT.1).1 (by omega) (by omega) (by omega) ⟨tree_cells hT 10 _ rfl, tree_cells hT 11 _ rfl, tree_cells hT 12 _ rfl, tree_cells hT 13 _ rfl, tree_cells hT 14 _ rfl⟩
theorem tree_kid {w : World} {b kb : Nat} (h : TreeAt w b kb) : w.heap[kb]? = some (.cells #[.int .i64 2] 3 (0, 0)) := h.2
def sp1 : SP := ⟨1, ⟨#[]⟩, ⟨#[]⟩, 0, 0⟩
def SurvPost (w : World) (e : Ending) (w' : World) : Prop := ∃ A c, e = .returned (.tuple #[.slice A 2 c, .bool true]) ∧ ES.Row w' w.heap.size A [sp1, sp2] c ∧ Below w.heap.size w w'
def lenOf : Value → Nat
  | .slice _ n _ => n
  | _ => 0
abbrev TS (b : Nat) : Value := .slice (some ⟨b, 0, none⟩) 3 3
def SvR (w : World) (b M : Nat) (v6 v8 v9 : Value) (W : World) : Prop :=
  (∃ A8 c8 A9 c9 S, v6 = .bool true ∧ v8 = .slice A8 0 c8 ∧ v9 = .slice A9 1 c9 ∧ S 1 = 0 ∧ S 2 = 0 ∧ SB w (TS b) M A8 [] c8 A9 [sp1] c9 0 S W) ∨
  (∃ A8 c8 A9 c9 S, v6 = .bool true ∧ v8 = .slice A8 1 c8 ∧ v9 = .slice A9 1 c9 ∧ S 2 = 0 ∧ SB w (TS b) M A8 [sp1] c8 A9 [sp2] c9 1 S W) ∨
  (∃ A8 c8 A9 c9 S, v6 = .bool true ∧ v8 = .slice A8 2 c8 ∧ v9 = .slice A9 0 c9 ∧ SB w (TS b) M A8 [sp1, sp2] c8 A9 [] c9 2 S W)
set_option maxRecDepth 100000 in
set_option maxHeartbeats 4000000 in
theorem survey1 (b kb : Nat) (w : World) (hT : TreeAt w b kb) : Calls Try.prog 45 #[TV b] w (SurvPost w) := by
  have HTW : Hid (∀ W, Below w.heap.size w W → TreeAt W b kb) := Lib.hid (fun W h => hT.later h)
  have HA : Hid (Below w.heap.size w (w.alloc (.cells #[TS b] 46))) := Lib.hid (alb w _)
  have HX : Hid (Boxed (w.alloc (.cells #[TS b] 46)) w.heap.size 46 (TS b)) := Lib.hid (Boxed.new w 46 _)
  clear hT
  have hmm := @run_makeMap Try.prog
  go_enter Try.func45, Try.ntmps45
  go_wp2_with (first
    | (go_at_call 57; ((with_reducible refine (tnode1 b kb _ (HTW.out _ HA.out)).mono ?_); rintro e w1 ⟨rfl, b1⟩; have B1H := Lib.hid (bel_trans HA.out b1); have X1 := Lib.hid (boxed_later HX.out b1); clear b1))
    | fail)
  have hsb : SB w (TS b) (w1.heap.size + 1) none [] 0 (some ⟨w1.heap.size + 1 + 1, 0, none⟩) [sp1] 1 0 (fun _ => 0) (((w1.alloc (.cells #[.int .u8 2, S0, KS kb, S0, S0] 43)).alloc (.map #[] 0)).alloc (.cells #[.int .i64 1, E0, E0, .int .i64 0, .int .i64 0] 90)) := by
    have hx := X1.out.lt
    have b1 := alb w1 (.cells #[.int .u8 2, S0, KS kb, S0, S0] 43)
    have b2 := alb (w1.alloc (.cells #[.int .u8 2, S0, KS kb, S0, S0] 43)) (.map #[] 0)
    have b3 := alb ((w1.alloc (.cells #[.int .u8 2, S0, KS kb, S0, S0] 43)).alloc (.map #[] 0)) (.cells #[.int .i64 1, E0, E0, .int .i64 0, .int .i64 0] 90)
    have e2 : ((w1.alloc (.cells #[.int .u8 2, S0, KS kb, S0, S0] 43)).alloc (.map #[] 0)).heap.size = w1.heap.size + 1 + 1 := by simp
    have e1 : (w1.alloc (.cells #[.int .u8 2, S0, KS kb, S0, S0] 43)).heap.size = w1.heap.size + 1 := by simp
    have bb := bel_trans (bel_trans (bel_trans B1H.out b1) b2) b3
    refine ⟨.inl ⟨rfl, rfl⟩, .inr ⟨by omega, ?_⟩, .inl rfl, ?_, by omega, boxed_later (boxed_later (boxed_later X1.out b1) b2) b3, bb⟩
    · have h := World.ownsRow_lit (base := w.heap.size + 1) (e := 90) (size := 5) ((w1.alloc (.cells #[.int .u8 2, S0, KS kb, S0, S0] 43)).alloc (.map #[] 0)) #[.int .i64 1, E0, E0, .int .i64 0, .int .i64 0] 1 (by omega) (by unfold maxLen; omega) rfl
      rw [e2] at h
      exact h
    · have h := IM.made (w1.alloc (.cells #[.int .u8 2, S0, KS kb, S0, S0] 43))
      rw [e1] at h
      exact h.later b3
  have HSB := Lib.hid hsb
  clear hsb
  go_loopw [6, 8, 9] (fun v6 v8 v9 wr => SvR w b (w1.heap.size + 1) v6 v8 v9 wr) (fun _ v8 _ _ => 3 - lenOf v8)
  case atStart => exact .inl ⟨_, _, _, _, _, rfl, rfl, rfl, rfl, rfl, HSB.out⟩
  case round =>
    clear HSB
    rcases hrel with ⟨A8, c8, A9, c9, S, rfl, rfl, rfl, h1, h2, hs⟩ | ⟨A8, c8, A9, c9, S, rfl, rfl, rfl, h2, hs⟩ | ⟨A8, c8, A9, c9, S, rfl, rfl, rfl, hs⟩
    · have HS1 := Lib.hid h1
      have HS2 := Lib.hid h2
      clear h1 h2
      have hlt0 := hs.mp.lt
      have HLT : Hid (w1.heap.size + 1 < wr.heap.size) := Lib.hid hlt0
      obtain ⟨b9, off9, rfl, hb9, q0, q1, q2, q3, q4⟩ := es_at (i := 0) (x := sp1) hs.r9.rd rfl
      have p0 : wr.cell? ⟨b9, off9, none⟩ = some (.int .i64 1) := q0
      have p1 : wr.cell? ⟨b9, off9 + 1, none⟩ = some E0 := q1
      have p2 : wr.cell? ⟨b9, off9 + 2, none⟩ = some E0 := q2
      have p3 : wr.cell? ⟨b9, off9 + 3, none⟩ = some (.int .i64 0) := q3
      have p4 : wr.cell? ⟨b9, off9 + 4, none⟩ = some (.int .i64 0) := q4
      have cb := (boxed_later hs.bx (alb wr (.cells #[.int .i64 1, E0, E0, .int .i64 0, .int .i64 0] 90))).cell
      have S0H := Lib.hid ((hs.cut9 0).later (alb wr (.cells #[.int .i64 1, E0, E0, .int .i64 0, .int .i64 0] 90)))
      have HF8 : Hid (∀ g, RE.fp A8 c8 = some g → g < wr.heap.size) := Lib.hid (fun g e => (hs.r8.fp_lt e).2)
      clear hs hlt0 q0 q1 q2 q3 q4 hb9
      have hS1 : S 1 = 0 := HS1.out
      clear hS1
      go_wp2_with (first
        | (go_at_call 57; ((with_reducible refine (tnode1 b kb _ (HTW.out _ S0H.out.bel)).mono ?_); rintro e w2 ⟨rfl, b2⟩; have z10 := Lib.hid (keep_bel b2 (heap_alloc_new wr (.cells #[.int .i64 1, E0, E0, .int .i64 0, .int .i64 0] 90))); have S1H := Lib.hid ((S0H.out.later b2).later (alb w2 (.cells #[.int .u8 2, S0, KS kb, S0, S0] 43))); have HSZ : Hid (wr.heap.size + 1 ≤ w2.heap.size) := Lib.hid (by have := b2.size; simp at this; omega); have y10 := Lib.hid (keep_bel (alb w2 (.cells #[.int .u8 2, S0, KS kb, S0, S0] 43)) z10.out); have y11 := Lib.hid (heap_alloc_new w2 (.cells #[.int .u8 2, S0, KS kb, S0, S0] 43)); obtain ⟨x0, x1, x2, x3, x4⟩ := cells5 y10.out; clear b2))
        | (at_lookup; refine im_look _ rfl (.tmp 48) (.tmp 50) rfl S1H.out.mp rfl 1 rfl (by decide) 0 HS1.out ?_)
        | (at_mapUpdate; refine im_put _ rfl (.tmp 48) (.tmp 50) (.tmp 52) rfl S1H.out.mp (by unfold maxLen; omega) rfl 1 1 rfl rfl (by decide) (by decide) ?_; intro w3 hm3 hg3; have S2H := Lib.hid (S1H.out.upd hg3 hm3); have z10b := Lib.hid (keep_chg (chg_of_grown hg3) y10.out (fun e => by have := HLT.out; injection e with e; omega)); have z11b := Lib.hid (keep_chg (chg_of_grown hg3) y11.out (fun e => by have := HLT.out; have := HSZ.out; injection e with e; omega)); have HSZ3 : Hid (w2.heap.size + 1 ≤ w3.heap.size) := Lib.hid (by have := hg3.size; simp at this; omega); clear x0 x1 x2 x3 x4; obtain ⟨x0, x1, x2, x3, x4⟩ := cells5 z10b.out; obtain ⟨v0, v1, v2, v3, v4⟩ := cells5 z11b.out; clear hm3 hg3)
        | (at_lookup; refine im_glook _ (by rfl) (.tmp 56) (.tmp 58) rfl S2H.out.mp rfl 1 rfl (by decide) 1 (by simp [upd]) ?_; have RL8 := Lib.hid (RE.Rd.lit (E := ES) w3 90 [sp1] #[.int .i64 1, E0, E0, .int .i64 0, .int .i64 0] rfl); have S3H := Lib.hid (S2H.out.later (alb w3 (.cells #[.int .i64 1, E0, E0, .int .i64 0, .int .i64 0] 90))))
        | (at_builtin; refine RE.wpList_put ES _ rfl (.tmp 62) (.tmp 64) rfl (base := w.heap.size + 1) A8 0 c8 [] (some ⟨w3.heap.size, 0, none⟩) 1 1 [sp1] rfl rfl S3H.out.r8 rfl (by omega) (by have := S3H.out.bx.lt; omega) rfl (by omega) RL8.out ?_; intro A8' c8' w4 r1 r2 r3; have S4H := Lib.hid (S3H.out.put8 r2 r1 r3); have z10c := Lib.hid (keep_chg (chg_of_grown r2) (keep_bel (alb w3 (.cells #[.int .i64 1, E0, E0, .int .i64 0, .int .i64 0] 90)) z10b.out) (fun e => by have := HF8.out _ e; omega)); have z11c := Lib.hid (keep_chg (chg_of_grown r2) (keep_bel (alb w3 (.cells #[.int .i64 1, E0, E0, .int .i64 0, .int .i64 0] 90)) z11b.out) (fun e => by have := HF8.out _ e; have := HSZ.out; omega)); clear x0 x1 x2 x3 x4 v0 v1 v2 v3 v4 r1 r2 r3; obtain ⟨x0, x1, x2, x3, x4⟩ := cells5 z10c.out; obtain ⟨v0, v1, v2, v3, v4⟩ := cells5 z11c.out)
        | (go_at_call 58; ((with_reducible refine (right0 _).mono ?_); rintro e w5 ⟨rfl, b5⟩; have S5H := Lib.hid (S4H.out.later b5); have z10d := Lib.hid (keep_bel b5 z10c.out); have z11d := Lib.hid (keep_bel b5 z11c.out); clear x0 x1 x2 x3 x4 v0 v1 v2 v3 v4 b5; obtain ⟨x0, x1, x2, x3, x4⟩ := cells5 z10d.out; obtain ⟨v0, v1, v2, v3, v4⟩ := cells5 z11d.out))
        | (go_at_call 59; ((with_reducible refine (kids1 kb _ (tree_kid (HTW.out _ S5H.out.bel))).mono ?_); rintro e w6 ⟨Ak, ck, rfl, rk, b6⟩; have RK := Lib.hid rk.rd; have S6H := Lib.hid (S5H.out.later b6); clear rk b6 x0 x1 x2 x3 x4 v0 v1 v2 v3 v4))
        | (at_builtin; refine RE.wpList_put ES _ rfl (.tmp 87) (.tmp 90) rfl (base := w.heap.size + 1) (some ⟨b9, off9, none⟩) 0 c9 [] Ak 1 ck [sp2] rfl rfl S6H.out.r9 rfl (by omega) (by have := S6H.out.bx.lt; omega) rfl (by omega) RK.out ?_; intro A9' c9' w7 r1 r2 r3; have S7H := Lib.hid (S6H.out.put9 r2 r1 r3); clear r1 r2 r3)
        | fail)
      exact ⟨.inr (.inl ⟨_, _, _, _, _, rfl, rfl, rfl, by simp [upd]; exact HS2.out, S7H.out⟩), by simp [lenOf]⟩
    · have HS2 := Lib.hid h2
      clear h2
      have hlt0 := hs.mp.lt
      have HLT : Hid (w1.heap.size + 1 < wr.heap.size) := Lib.hid hlt0
      obtain ⟨b9, off9, rfl, hb9, q0, q1, q2, q3, q4⟩ := es_at (i := 0) (x := sp2) hs.r9.rd rfl
      have p0 : wr.cell? ⟨b9, off9, none⟩ = some (.int .i64 2) := q0
      have p1 : wr.cell? ⟨b9, off9 + 1, none⟩ = some E0 := q1
      have p2 : wr.cell? ⟨b9, off9 + 2, none⟩ = some E0 := q2
      have p3 : wr.cell? ⟨b9, off9 + 3, none⟩ = some (.int .i64 1) := q3
      have p4 : wr.cell? ⟨b9, off9 + 4, none⟩ = some (.int .i64 0) := q4
      have cb := (boxed_later hs.bx (alb wr (.cells #[.int .i64 2, E0, E0, .int .i64 1, .int .i64 0] 90))).cell
      have S0H := Lib.hid ((hs.cut9 0).later (alb wr (.cells #[.int .i64 2, E0, E0, .int .i64 1, .int .i64 0] 90)))
      have HF8 : Hid (∀ g, RE.fp A8 c8 = some g → g < wr.heap.size) := Lib.hid (fun g e => (hs.r8.fp_lt e).2)
      clear hs hlt0 q0 q1 q2 q3 q4 hb9
      have hS2 : S 2 = 0 := HS2.out
      clear hS2
      go_wp2_with (first
        | (go_at_call 57; ((with_reducible refine (tnode2 b kb _ (HTW.out _ S0H.out.bel)).mono ?_); rintro e w2 ⟨rfl, b2⟩; have z10 := Lib.hid (keep_bel b2 (heap_alloc_new wr (.cells #[.int .i64 2, E0, E0, .int .i64 1, .int .i64 0] 90))); have S1H := Lib.hid ((S0H.out.later b2).later (alb w2 (.cells #[.int .u8 1, S0, S0, S0, S0] 43))); have HSZ : Hid (wr.heap.size + 1 ≤ w2.heap.size) := Lib.hid (by have := b2.size; simp at this; omega); have y10 := Lib.hid (keep_bel (alb w2 (.cells #[.int .u8 1, S0, S0, S0, S0] 43)) z10.out); have y11 := Lib.hid (heap_alloc_new w2 (.cells #[.int .u8 1, S0, S0, S0, S0] 43)); obtain ⟨x0, x1, x2, x3, x4⟩ := cells5 y10.out; clear b2))
        | (at_lookup; refine im_look _ rfl (.tmp 48) (.tmp 50) rfl S1H.out.mp rfl 2 rfl (by decide) 0 HS2.out ?_)
        | (at_mapUpdate; refine im_put _ rfl (.tmp 48) (.tmp 50) (.tmp 52) rfl S1H.out.mp (by unfold maxLen; omega) rfl 2 1 rfl rfl (by decide) (by decide) ?_; intro w3 hm3 hg3; have S2H := Lib.hid (S1H.out.upd hg3 hm3); have z10b := Lib.hid (keep_chg (chg_of_grown hg3) y10.out (fun e => by have := HLT.out; injection e with e; omega)); have z11b := Lib.hid (keep_chg (chg_of_grown hg3) y11.out (fun e => by have := HLT.out; have := HSZ.out; injection e with e; omega)); have HSZ3 : Hid (w2.heap.size + 1 ≤ w3.heap.size) := Lib.hid (by have := hg3.size; simp at this; omega); clear x0 x1 x2 x3 x4; obtain ⟨x0, x1, x2, x3, x4⟩ := cells5 z10b.out; obtain ⟨v0, v1, v2, v3, v4⟩ := cells5 z11b.out; clear hm3 hg3)
        | (at_lookup; refine im_glook _ (by rfl) (.tmp 56) (.tmp 58) rfl S2H.out.mp rfl 2 rfl (by decide) 1 (by simp [upd]) ?_; have RL8 := Lib.hid (RE.Rd.lit (E := ES) w3 90 [sp2] #[.int .i64 2, E0, E0, .int .i64 1, .int .i64 0] rfl); have S3H := Lib.hid (S2H.out.later (alb w3 (.cells #[.int .i64 2, E0, E0, .int .i64 1, .int .i64 0] 90))))
        | (at_builtin; refine RE.wpList_put ES _ rfl (.tmp 62) (.tmp 64) rfl (base := w.heap.size + 1) A8 1 c8 [sp1] (some ⟨w3.heap.size, 0, none⟩) 1 1 [sp2] rfl rfl S3H.out.r8 rfl (by omega) (by have := S3H.out.bx.lt; omega) rfl (by omega) RL8.out ?_; intro A8' c8' w4 r1 r2 r3; have S4H := Lib.hid (S3H.out.put8 r2 r1 r3); have z10c := Lib.hid (keep_chg (chg_of_grown r2) (keep_bel (alb w3 (.cells #[.int .i64 2, E0, E0, .int .i64 1, .int .i64 0] 90)) z10b.out) (fun e => by have := HF8.out _ e; omega)); have z11c := Lib.hid (keep_chg (chg_of_grown r2) (keep_bel (alb w3 (.cells #[.int .i64 2, E0, E0, .int .i64 1, .int .i64 0] 90)) z11b.out) (fun e => by have := HF8.out _ e; have := HSZ.out; omega)); clear x0 x1 x2 x3 x4 v0 v1 v2 v3 v4 r1 r2 r3; obtain ⟨x0, x1, x2, x3, x4⟩ := cells5 z10c.out; obtain ⟨v0, v1, v2, v3, v4⟩ := cells5 z11c.out)
        | fail)
      exact ⟨.inr (.inr ⟨_, _, _, _, _, rfl, rfl, rfl, S4H.out⟩), by simp [lenOf]⟩
    · have HS := Lib.hid hs
      clear hs
      go_wp2
      go_ret2
      exact ⟨_, _, rfl, HS.out.r8.base (by omega), HS.out.bel⟩
end Go.Proofs.Ytniffjjkjgfacaa
