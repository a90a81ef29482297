/- The law InnerTurns answers true. -/
import Derived.Test.YtilnpeekajnlhaaTu20
set_option linter.unusedVariables false
set_option linter.unusedSimpArgs false
namespace Go.Proofs.Ytilnpeekajnlhaa
open Go.RowKit Go.Maps
set_option maxRecDepth 100000 in
set_option maxHeartbeats 8000000 in
theorem turns_yes (kd : Int) (P J M B : Option Addr) (n pc k kc m mc bc : Nat) (ks : List Int) (f t s : ByteArray) (i kid : Int) (w : World)
    (o1 o2 o3 : Bool) (d1 d2 d3 : Int) (p1 p2 p3 : List ByteArray) (k1 k2 k3 : List Int) (m1 m2 m3 : List MG)
    (SM : smallB n k m 0 = true)
    (RA : ∀ W, Below w.heap.size w W → Calls Try.prog 8 #[NV kd (.slice P n pc) (.slice J k kc) (.slice M m mc) (.slice B 0 bc), .agg #[.string f, .string t]] W fun e w' => e = .returned (.bool true) ∧ Below W.heap.size W w')
    (A19 : ∀ W, Below w.heap.size w W → Calls Try.prog 19 #[NV kd (.slice P n pc) (.slice J k kc) (.slice M m mc) (.slice B 0 bc), .int .i64 i, .string s, .int .i64 kid] W (TurnP o1 d1 p1 k1 m1 W))
    (A20 : ∀ W, Below w.heap.size w W → Calls Try.prog 20 #[NV kd (.slice P n pc) (.slice J k kc) (.slice M m mc) (.slice B 0 bc), .int .i64 i, .string s, .int .i64 kid] W (TurnP o1 d1 p1 k1 m1 W))
    (A21 : ∀ W, Below w.heap.size w W → Calls Try.prog 21 #[NV kd (.slice P n pc) (.slice J k kc) (.slice M m mc) (.slice B 0 bc), .int .i64 i] W (TurnP o2 d2 p2 k2 m2 W))
    (A22 : ∀ W, Below w.heap.size w W → Calls Try.prog 22 #[NV kd (.slice P n pc) (.slice J k kc) (.slice M m mc) (.slice B 0 bc), .int .i64 i] W (TurnP o2 d2 p2 k2 m2 W))
    (A23 : ∀ W, Below w.heap.size w W → Calls Try.prog 23 #[NV kd (.slice P n pc) (.slice J k kc) (.slice M m mc) (.slice B 0 bc), .int .i64 i, .string s] W (TurnP o3 d3 p3 k3 m3 W))
    (A24 : ∀ W, Below w.heap.size w W → Calls Try.prog 24 #[NV kd (.slice P n pc) (.slice J k kc) (.slice M m mc) (.slice B 0 bc), .int .i64 i, .string s] W (TurnP o3 d3 p3 k3 m3 W))
    (L1 : p1.length ≤ 1000 ∧ k1.length ≤ 1000 ∧ m1.length ≤ 1000) (L2 : p2.length ≤ 1000 ∧ k2.length ≤ 1000 ∧ m2.length ≤ 1000) (L3 : p3.length ≤ 1000 ∧ k3.length ≤ 1000 ∧ m3.length ≤ 1000)
    (PL : ∀ W, Below w.heap.size w W → Calls Try.prog 25 #[NV kd (.slice P n pc) (.slice J k kc) (.slice M m mc) (.slice B 0 bc), .int .i64 kid] W fun e w' => (∃ j : Int, e = .returned (.tuple #[.int .i64 j, .bool (hasI ks kid)])) ∧ Below W.heap.size W w')
    (R1 : o1 = true → hasI ks kid = false → 1 ≤ kid → kid ≤ 4096 → has f t s = true → s ≠ f → ∀ (P J M B : Option Addr) (pc kc mc bc : Nat) (W : World), ES.Rd W P p1 → EI.Rd W J k1 → EG.Rd W M m1 → Calls Try.prog 16 #[NV d1 (.slice P p1.length pc) (.slice J k1.length kc) (.slice M m1.length mc) (.slice B 0 bc), .agg #[.string f, .string t]] W fun e w' => e = .returned (.bool true) ∧ Below W.heap.size W w')
    (R2 : o2 = true → ∀ (P J M B : Option Addr) (pc kc mc bc : Nat) (W : World), ES.Rd W P p2 → EI.Rd W J k2 → EG.Rd W M m2 → Calls Try.prog 16 #[NV d2 (.slice P p2.length pc) (.slice J k2.length kc) (.slice M m2.length mc) (.slice B 0 bc), .agg #[.string f, .string t]] W fun e w' => e = .returned (.bool true) ∧ Below W.heap.size W w') :
    Calls Try.prog 4 #[NV kd (.slice P n pc) (.slice J k kc) (.slice M m mc) (.slice B 0 bc), .agg #[.string f, .string t], .int .i64 i, .string s, .int .i64 kid] w fun e w' => e = .returned (.bool true) ∧ Below w.heap.size w w' := by
  have SA : Hid (∀ W, Calls Try.prog 7 #[NV kd (.slice P n pc) (.slice J k kc) (.slice M m mc) (.slice B 0 bc)] W fun e w' => e = .returned (.bool true) ∧ Below W.heap.size W w') := Lib.hid (fun W => by
    have q := small_any kd P J M B n pc k kc m mc 0 bc W
    rw [SM] at q; exact q)
  replace RA := Lib.hid RA
  replace PL := Lib.hid PL
  replace R1 := Lib.hid R1
  replace R2 := Lib.hid R2
  unfold TurnP at A19
  replace A19 := Lib.hid A19
  unfold TurnP at A20
  replace A20 := Lib.hid A20
  unfold TurnP at A21
  replace A21 := Lib.hid A21
  unfold TurnP at A22
  replace A22 := Lib.hid A22
  unfold TurnP at A23
  replace A23 := Lib.hid A23
  unfold TurnP at A24
  replace A24 := Lib.hid A24
  have S1 := Lib.hid (fun (Pa Ja Ma Ba Pb Jb Mb Bb : Option Addr) (pa ja ma ba pb jb mb bb : Nat) W (h : ES.Rd W Pa p1 ∧ EI.Rd W Ja k1 ∧ EG.Rd W Ma m1) (g : ES.Rd W Pb p1 ∧ EI.Rd W Jb k1 ∧ EG.Rd W Mb m1) => same14 d1 Pa Ja Ma Ba Pb Jb Mb Bb _ _ _ pa ja ma ba pb jb mb bb p1 k1 m1 W rfl L1.1 rfl L1.2.1 rfl L1.2.2 h.1 g.1 h.2.1 g.2.1 h.2.2 g.2.2)
  have S2 := Lib.hid (fun (Pa Ja Ma Ba Pb Jb Mb Bb : Option Addr) (pa ja ma ba pb jb mb bb : Nat) W (h : ES.Rd W Pa p2 ∧ EI.Rd W Ja k2 ∧ EG.Rd W Ma m2) (g : ES.Rd W Pb p2 ∧ EI.Rd W Jb k2 ∧ EG.Rd W Mb m2) => same14 d2 Pa Ja Ma Ba Pb Jb Mb Bb _ _ _ pa ja ma ba pb jb mb bb p2 k2 m2 W rfl L2.1 rfl L2.2.1 rfl L2.2.2 h.1 g.1 h.2.1 g.2.1 h.2.2 g.2.2)
  have S3 := Lib.hid (fun (Pa Ja Ma Ba Pb Jb Mb Bb : Option Addr) (pa ja ma ba pb jb mb bb : Nat) W (h : ES.Rd W Pa p3 ∧ EI.Rd W Ja k3 ∧ EG.Rd W Ma m3) (g : ES.Rd W Pb p3 ∧ EI.Rd W Jb k3 ∧ EG.Rd W Mb m3) => same14 d3 Pa Ja Ma Ba Pb Jb Mb Bb _ _ _ pa ja ma ba pb jb mb bb p3 k3 m3 W rfl L3.1 rfl L3.2.1 rfl L3.2.2 h.1 g.1 h.2.1 g.2.1 h.2.2 g.2.2)
  have y1 := two_new w (NO kd (.slice P n pc) (.slice J k kc) (.slice M m mc) (.slice B 0 bc)) (rgc f t)
  have H0 := Lib.hid (bel_alloc (alb w (NO kd (.slice P n pc) (.slice J k kc) (.slice M m mc) (.slice B 0 bc))) (rgc f t))
  have Z := Lib.hid y1.1
  have Y := Lib.hid y1.2
  clear y1 SM L1 L2 L3
  obtain ⟨c0, c1, c2, c3, c4⟩ := cells5 Z.out
  obtain ⟨d0, d1', -, -⟩ := has_two Y.out
  go_enter Try.func4, Try.ntmps4
  go_upto_region 4 with (first
    | (go_at_call 7; ((with_reducible refine (SA.out _).mono ?_); rintro e w1 ⟨rfl, b1⟩; replace H0 := Lib.hid (bel_trans H0.out b1); replace Z := Lib.hid (keep_bel b1 Z.out); replace Y := Lib.hid (keep_bel b1 Y.out); clear b1; clear c0 c1 c2 c3 c4 d0 d1'; obtain ⟨c0, c1, c2, c3, c4⟩ := cells5 Z.out; obtain ⟨d0, d1', -, -⟩ := has_two Y.out))
    | (go_at_call 8; ((with_reducible refine (RA.out _ H0.out).mono ?_); rintro e w2 ⟨rfl, b2⟩; replace H0 := Lib.hid (bel_trans H0.out b2); replace Z := Lib.hid (keep_bel b2 Z.out); replace Y := Lib.hid (keep_bel b2 Y.out); clear b2; clear c0 c1 c2 c3 c4 d0 d1'; obtain ⟨c0, c1, c2, c3, c4⟩ := cells5 Z.out; obtain ⟨d0, d1', -, -⟩ := has_two Y.out))
    | (go_at_call 19; ((with_reducible refine (A19.out _ H0.out).mono ?_); rintro e w3 ⟨P3, n', c3p, J3, k', c3k, M3, m', c3m, B3, c3b, rfl, ⟨rfl, rfl, rfl⟩, ⟨r1, r2, r3⟩, b⟩; have Q3 := Lib.hid (And.intro r1 (And.intro r2 r3)); replace H0 := Lib.hid (bel_trans H0.out b); replace Z := Lib.hid (keep_bel b Z.out); replace Y := Lib.hid (keep_bel b Y.out); clear b r1 r2 r3; clear c0 c1 c2 c3 c4 d0 d1'))
    | fail)
  have AL := alb w3 (NO d1 (.slice P3 p1.length c3p) (.slice J3 k1.length c3k) (.slice M3 m1.length c3m) (.slice B3 0 c3b))
  obtain ⟨W3, hW⟩ : ∃ W, W = w3.alloc (NO d1 (.slice P3 p1.length c3p) (.slice J3 k1.length c3k) (.slice M3 m1.length c3m) (.slice B3 0 c3b)) := ⟨_, rfl⟩
  have X3 := Lib.hid (show W3.heap[w3.heap.size]? = some (NO d1 (.slice P3 p1.length c3p) (.slice J3 k1.length c3k) (.slice M3 m1.length c3m) (.slice B3 0 c3b)) by rw [hW]; exact heap_alloc_new _ _)
  rw [← hW] at AL ⊢
  replace H0 := Lib.hid (bel_trans H0.out AL)
  replace Z := Lib.hid (keep_bel AL Z.out)
  replace Y := Lib.hid (keep_bel AL Y.out)
  replace Q3 := Lib.hid (And.intro (Q3.out.1.later AL) (And.intro (Q3.out.2.1.later AL) (Q3.out.2.2.later AL)))
  clear AL hW
  obtain ⟨c0, c1, c2, c3, c4⟩ := cells5 Z.out
  obtain ⟨d0, d1', -, -⟩ := has_two Y.out
  go_upto_region 5 with (first
    | (go_at_call 20; ((with_reducible refine (A20.out _ H0.out).mono ?_); rintro e w4 ⟨P4, n', c4p, J4, k', c4k, M4, m', c4m, B4, c4b, rfl, ⟨rfl, rfl, rfl⟩, ⟨r1, r2, r3⟩, b⟩; have Q4 := Lib.hid (And.intro r1 (And.intro r2 r3)); replace H0 := Lib.hid (bel_trans H0.out b); replace Z := Lib.hid (keep_bel b Z.out); replace Y := Lib.hid (keep_bel b Y.out); replace X3 := Lib.hid (keep_bel b X3.out); replace Q3 := Lib.hid (And.intro (Q3.out.1.later b) (And.intro (Q3.out.2.1.later b) (Q3.out.2.2.later b))); clear b r1 r2 r3; clear c0 c1 c2 c3 c4 d0 d1'))
    | fail)
  have AL := alb w4 (NO d1 (.slice P4 p1.length c4p) (.slice J4 k1.length c4k) (.slice M4 m1.length c4m) (.slice B4 0 c4b))
  obtain ⟨W4, hW⟩ : ∃ W, W = w4.alloc (NO d1 (.slice P4 p1.length c4p) (.slice J4 k1.length c4k) (.slice M4 m1.length c4m) (.slice B4 0 c4b)) := ⟨_, rfl⟩
  have X4 := Lib.hid (show W4.heap[w4.heap.size]? = some (NO d1 (.slice P4 p1.length c4p) (.slice J4 k1.length c4k) (.slice M4 m1.length c4m) (.slice B4 0 c4b)) by rw [hW]; exact heap_alloc_new _ _)
  rw [← hW] at AL ⊢
  replace H0 := Lib.hid (bel_trans H0.out AL)
  replace Z := Lib.hid (keep_bel AL Z.out)
  replace Y := Lib.hid (keep_bel AL Y.out)
  replace X3 := Lib.hid (keep_bel AL X3.out)
  replace Q3 := Lib.hid (And.intro (Q3.out.1.later AL) (And.intro (Q3.out.2.1.later AL) (Q3.out.2.2.later AL)))
  replace Q4 := Lib.hid (And.intro (Q4.out.1.later AL) (And.intro (Q4.out.2.1.later AL) (Q4.out.2.2.later AL)))
  clear AL hW
  obtain ⟨c0, c1, c2, c3, c4⟩ := cells5 Z.out
  obtain ⟨d0, d1', -, -⟩ := has_two Y.out
  go_upto_region 6 with (first
    | (go_at_call 21; ((with_reducible refine (A21.out _ H0.out).mono ?_); rintro e w5 ⟨P5, n', c5p, J5, k', c5k, M5, m', c5m, B5, c5b, rfl, ⟨rfl, rfl, rfl⟩, ⟨r1, r2, r3⟩, b⟩; have Q5 := Lib.hid (And.intro r1 (And.intro r2 r3)); replace H0 := Lib.hid (bel_trans H0.out b); replace Z := Lib.hid (keep_bel b Z.out); replace Y := Lib.hid (keep_bel b Y.out); replace X3 := Lib.hid (keep_bel b X3.out); replace Q3 := Lib.hid (And.intro (Q3.out.1.later b) (And.intro (Q3.out.2.1.later b) (Q3.out.2.2.later b))); replace X4 := Lib.hid (keep_bel b X4.out); replace Q4 := Lib.hid (And.intro (Q4.out.1.later b) (And.intro (Q4.out.2.1.later b) (Q4.out.2.2.later b))); clear b r1 r2 r3; clear c0 c1 c2 c3 c4 d0 d1'))
    | fail)
  have AL := alb w5 (NO d2 (.slice P5 p2.length c5p) (.slice J5 k2.length c5k) (.slice M5 m2.length c5m) (.slice B5 0 c5b))
  obtain ⟨W5, hW⟩ : ∃ W, W = w5.alloc (NO d2 (.slice P5 p2.length c5p) (.slice J5 k2.length c5k) (.slice M5 m2.length c5m) (.slice B5 0 c5b)) := ⟨_, rfl⟩
  have X5 := Lib.hid (show W5.heap[w5.heap.size]? = some (NO d2 (.slice P5 p2.length c5p) (.slice J5 k2.length c5k) (.slice M5 m2.length c5m) (.slice B5 0 c5b)) by rw [hW]; exact heap_alloc_new _ _)
  rw [← hW] at AL ⊢
  replace H0 := Lib.hid (bel_trans H0.out AL)
  replace Z := Lib.hid (keep_bel AL Z.out)
  replace Y := Lib.hid (keep_bel AL Y.out)
  replace X3 := Lib.hid (keep_bel AL X3.out)
  replace X4 := Lib.hid (keep_bel AL X4.out)
  replace Q3 := Lib.hid (And.intro (Q3.out.1.later AL) (And.intro (Q3.out.2.1.later AL) (Q3.out.2.2.later AL)))
  replace Q4 := Lib.hid (And.intro (Q4.out.1.later AL) (And.intro (Q4.out.2.1.later AL) (Q4.out.2.2.later AL)))
  replace Q5 := Lib.hid (And.intro (Q5.out.1.later AL) (And.intro (Q5.out.2.1.later AL) (Q5.out.2.2.later AL)))
  clear AL hW
  obtain ⟨c0, c1, c2, c3, c4⟩ := cells5 Z.out
  obtain ⟨d0, d1', -, -⟩ := has_two Y.out
  go_upto_region 7 with (first
    | (go_at_call 22; ((with_reducible refine (A22.out _ H0.out).mono ?_); rintro e w6 ⟨P6, n', c6p, J6, k', c6k, M6, m', c6m, B6, c6b, rfl, ⟨rfl, rfl, rfl⟩, ⟨r1, r2, r3⟩, b⟩; have Q6 := Lib.hid (And.intro r1 (And.intro r2 r3)); replace H0 := Lib.hid (bel_trans H0.out b); replace Z := Lib.hid (keep_bel b Z.out); replace Y := Lib.hid (keep_bel b Y.out); replace X3 := Lib.hid (keep_bel b X3.out); replace Q3 := Lib.hid (And.intro (Q3.out.1.later b) (And.intro (Q3.out.2.1.later b) (Q3.out.2.2.later b))); replace X4 := Lib.hid (keep_bel b X4.out); replace Q4 := Lib.hid (And.intro (Q4.out.1.later b) (And.intro (Q4.out.2.1.later b) (Q4.out.2.2.later b))); replace X5 := Lib.hid (keep_bel b X5.out); replace Q5 := Lib.hid (And.intro (Q5.out.1.later b) (And.intro (Q5.out.2.1.later b) (Q5.out.2.2.later b))); clear b r1 r2 r3; clear c0 c1 c2 c3 c4 d0 d1'))
    | fail)
  have AL := alb w6 (NO d2 (.slice P6 p2.length c6p) (.slice J6 k2.length c6k) (.slice M6 m2.length c6m) (.slice B6 0 c6b))
  obtain ⟨W6, hW⟩ : ∃ W, W = w6.alloc (NO d2 (.slice P6 p2.length c6p) (.slice J6 k2.length c6k) (.slice M6 m2.length c6m) (.slice B6 0 c6b)) := ⟨_, rfl⟩
  have X6 := Lib.hid (show W6.heap[w6.heap.size]? = some (NO d2 (.slice P6 p2.length c6p) (.slice J6 k2.length c6k) (.slice M6 m2.length c6m) (.slice B6 0 c6b)) by rw [hW]; exact heap_alloc_new _ _)
  rw [← hW] at AL ⊢
  replace H0 := Lib.hid (bel_trans H0.out AL)
  replace Z := Lib.hid (keep_bel AL Z.out)
  replace Y := Lib.hid (keep_bel AL Y.out)
  replace X3 := Lib.hid (keep_bel AL X3.out)
  replace X4 := Lib.hid (keep_bel AL X4.out)
  replace X5 := Lib.hid (keep_bel AL X5.out)
  replace Q3 := Lib.hid (And.intro (Q3.out.1.later AL) (And.intro (Q3.out.2.1.later AL) (Q3.out.2.2.later AL)))
  replace Q4 := Lib.hid (And.intro (Q4.out.1.later AL) (And.intro (Q4.out.2.1.later AL) (Q4.out.2.2.later AL)))
  replace Q5 := Lib.hid (And.intro (Q5.out.1.later AL) (And.intro (Q5.out.2.1.later AL) (Q5.out.2.2.later AL)))
  replace Q6 := Lib.hid (And.intro (Q6.out.1.later AL) (And.intro (Q6.out.2.1.later AL) (Q6.out.2.2.later AL)))
  clear AL hW
  obtain ⟨c0, c1, c2, c3, c4⟩ := cells5 Z.out
  obtain ⟨d0, d1', -, -⟩ := has_two Y.out
  go_upto_region 8 with (first
    | (go_at_call 23; ((with_reducible refine (A23.out _ H0.out).mono ?_); rintro e w7 ⟨P7, n', c7p, J7, k', c7k, M7, m', c7m, B7, c7b, rfl, ⟨rfl, rfl, rfl⟩, ⟨r1, r2, r3⟩, b⟩; have Q7 := Lib.hid (And.intro r1 (And.intro r2 r3)); replace H0 := Lib.hid (bel_trans H0.out b); replace Z := Lib.hid (keep_bel b Z.out); replace Y := Lib.hid (keep_bel b Y.out); replace X3 := Lib.hid (keep_bel b X3.out); replace Q3 := Lib.hid (And.intro (Q3.out.1.later b) (And.intro (Q3.out.2.1.later b) (Q3.out.2.2.later b))); replace X4 := Lib.hid (keep_bel b X4.out); replace Q4 := Lib.hid (And.intro (Q4.out.1.later b) (And.intro (Q4.out.2.1.later b) (Q4.out.2.2.later b))); replace X5 := Lib.hid (keep_bel b X5.out); replace Q5 := Lib.hid (And.intro (Q5.out.1.later b) (And.intro (Q5.out.2.1.later b) (Q5.out.2.2.later b))); replace X6 := Lib.hid (keep_bel b X6.out); replace Q6 := Lib.hid (And.intro (Q6.out.1.later b) (And.intro (Q6.out.2.1.later b) (Q6.out.2.2.later b))); clear b r1 r2 r3; clear c0 c1 c2 c3 c4 d0 d1'))
    | fail)
  have AL := alb w7 (NO d3 (.slice P7 p3.length c7p) (.slice J7 k3.length c7k) (.slice M7 m3.length c7m) (.slice B7 0 c7b))
  obtain ⟨W7, hW⟩ : ∃ W, W = w7.alloc (NO d3 (.slice P7 p3.length c7p) (.slice J7 k3.length c7k) (.slice M7 m3.length c7m) (.slice B7 0 c7b)) := ⟨_, rfl⟩
  have X7 := Lib.hid (show W7.heap[w7.heap.size]? = some (NO d3 (.slice P7 p3.length c7p) (.slice J7 k3.length c7k) (.slice M7 m3.length c7m) (.slice B7 0 c7b)) by rw [hW]; exact heap_alloc_new _ _)
  rw [← hW] at AL ⊢
  replace H0 := Lib.hid (bel_trans H0.out AL)
  replace Z := Lib.hid (keep_bel AL Z.out)
  replace Y := Lib.hid (keep_bel AL Y.out)
  replace X3 := Lib.hid (keep_bel AL X3.out)
  replace X4 := Lib.hid (keep_bel AL X4.out)
  replace X5 := Lib.hid (keep_bel AL X5.out)
  replace X6 := Lib.hid (keep_bel AL X6.out)
  replace Q3 := Lib.hid (And.intro (Q3.out.1.later AL) (And.intro (Q3.out.2.1.later AL) (Q3.out.2.2.later AL)))
  replace Q4 := Lib.hid (And.intro (Q4.out.1.later AL) (And.intro (Q4.out.2.1.later AL) (Q4.out.2.2.later AL)))
  replace Q5 := Lib.hid (And.intro (Q5.out.1.later AL) (And.intro (Q5.out.2.1.later AL) (Q5.out.2.2.later AL)))
  replace Q6 := Lib.hid (And.intro (Q6.out.1.later AL) (And.intro (Q6.out.2.1.later AL) (Q6.out.2.2.later AL)))
  replace Q7 := Lib.hid (And.intro (Q7.out.1.later AL) (And.intro (Q7.out.2.1.later AL) (Q7.out.2.2.later AL)))
  clear AL hW
  obtain ⟨c0, c1, c2, c3, c4⟩ := cells5 Z.out
  obtain ⟨d0, d1', -, -⟩ := has_two Y.out
  go_upto_region 9 with (first
    | (go_at_call 24; ((with_reducible refine (A24.out _ H0.out).mono ?_); rintro e w8 ⟨P8, n', c8p, J8, k', c8k, M8, m', c8m, B8, c8b, rfl, ⟨rfl, rfl, rfl⟩, ⟨r1, r2, r3⟩, b⟩; have Q8 := Lib.hid (And.intro r1 (And.intro r2 r3)); replace H0 := Lib.hid (bel_trans H0.out b); replace Z := Lib.hid (keep_bel b Z.out); replace Y := Lib.hid (keep_bel b Y.out); replace X3 := Lib.hid (keep_bel b X3.out); replace Q3 := Lib.hid (And.intro (Q3.out.1.later b) (And.intro (Q3.out.2.1.later b) (Q3.out.2.2.later b))); replace X4 := Lib.hid (keep_bel b X4.out); replace Q4 := Lib.hid (And.intro (Q4.out.1.later b) (And.intro (Q4.out.2.1.later b) (Q4.out.2.2.later b))); replace X5 := Lib.hid (keep_bel b X5.out); replace Q5 := Lib.hid (And.intro (Q5.out.1.later b) (And.intro (Q5.out.2.1.later b) (Q5.out.2.2.later b))); replace X6 := Lib.hid (keep_bel b X6.out); replace Q6 := Lib.hid (And.intro (Q6.out.1.later b) (And.intro (Q6.out.2.1.later b) (Q6.out.2.2.later b))); replace X7 := Lib.hid (keep_bel b X7.out); replace Q7 := Lib.hid (And.intro (Q7.out.1.later b) (And.intro (Q7.out.2.1.later b) (Q7.out.2.2.later b))); clear b r1 r2 r3; clear c0 c1 c2 c3 c4 d0 d1'))
    | fail)
  have AL := alb w8 (NO d3 (.slice P8 p3.length c8p) (.slice J8 k3.length c8k) (.slice M8 m3.length c8m) (.slice B8 0 c8b))
  obtain ⟨W8, hW⟩ : ∃ W, W = w8.alloc (NO d3 (.slice P8 p3.length c8p) (.slice J8 k3.length c8k) (.slice M8 m3.length c8m) (.slice B8 0 c8b)) := ⟨_, rfl⟩
  have X8 := Lib.hid (show W8.heap[w8.heap.size]? = some (NO d3 (.slice P8 p3.length c8p) (.slice J8 k3.length c8k) (.slice M8 m3.length c8m) (.slice B8 0 c8b)) by rw [hW]; exact heap_alloc_new _ _)
  rw [← hW] at AL ⊢
  replace H0 := Lib.hid (bel_trans H0.out AL)
  replace Z := Lib.hid (keep_bel AL Z.out)
  replace Y := Lib.hid (keep_bel AL Y.out)
  replace X3 := Lib.hid (keep_bel AL X3.out)
  replace X4 := Lib.hid (keep_bel AL X4.out)
  replace X5 := Lib.hid (keep_bel AL X5.out)
  replace X6 := Lib.hid (keep_bel AL X6.out)
  replace X7 := Lib.hid (keep_bel AL X7.out)
  replace Q3 := Lib.hid (And.intro (Q3.out.1.later AL) (And.intro (Q3.out.2.1.later AL) (Q3.out.2.2.later AL)))
  replace Q4 := Lib.hid (And.intro (Q4.out.1.later AL) (And.intro (Q4.out.2.1.later AL) (Q4.out.2.2.later AL)))
  replace Q5 := Lib.hid (And.intro (Q5.out.1.later AL) (And.intro (Q5.out.2.1.later AL) (Q5.out.2.2.later AL)))
  replace Q6 := Lib.hid (And.intro (Q6.out.1.later AL) (And.intro (Q6.out.2.1.later AL) (Q6.out.2.2.later AL)))
  replace Q7 := Lib.hid (And.intro (Q7.out.1.later AL) (And.intro (Q7.out.2.1.later AL) (Q7.out.2.2.later AL)))
  replace Q8 := Lib.hid (And.intro (Q8.out.1.later AL) (And.intro (Q8.out.2.1.later AL) (Q8.out.2.2.later AL)))
  clear AL hW
  obtain ⟨c0, c1, c2, c3, c4⟩ := cells5 Z.out
  obtain ⟨d0, d1', -, -⟩ := has_two Y.out
  clear A19 A20 A21 A22 A23 A24 SA RA c0 c1 c2 c3 c4 d0 d1'
  have HB := Lib.hid (Below.refl W8.heap.size W8)
  obtain ⟨x30, x31, x32, x33, x34⟩ := cells5 X3.out; obtain ⟨x40, x41, x42, x43, x44⟩ := cells5 X4.out; obtain ⟨x50, x51, x52, x53, x54⟩ := cells5 X5.out; obtain ⟨x60, x61, x62, x63, x64⟩ := cells5 X6.out; obtain ⟨x70, x71, x72, x73, x74⟩ := cells5 X7.out; obtain ⟨x80, x81, x82, x83, x84⟩ := cells5 X8.out
  go_upto_region 11 with (first
    | (go_at_call 13; ((with_reducible refine (S1.out P3 J3 M3 B3 P4 J4 M4 B4 c3p c3k c3m c3b c4p c4k c4m c4b _ Q3.out Q4.out).mono ?_); rintro e v1 ⟨rfl, b⟩; replace X3 := Lib.hid (keep_bel b X3.out); replace Q3 := Lib.hid (And.intro (Q3.out.1.later b) (And.intro (Q3.out.2.1.later b) (Q3.out.2.2.later b))); replace X4 := Lib.hid (keep_bel b X4.out); replace Q4 := Lib.hid (And.intro (Q4.out.1.later b) (And.intro (Q4.out.2.1.later b) (Q4.out.2.2.later b))); replace X5 := Lib.hid (keep_bel b X5.out); replace Q5 := Lib.hid (And.intro (Q5.out.1.later b) (And.intro (Q5.out.2.1.later b) (Q5.out.2.2.later b))); replace X6 := Lib.hid (keep_bel b X6.out); replace Q6 := Lib.hid (And.intro (Q6.out.1.later b) (And.intro (Q6.out.2.1.later b) (Q6.out.2.2.later b))); replace X7 := Lib.hid (keep_bel b X7.out); replace Q7 := Lib.hid (And.intro (Q7.out.1.later b) (And.intro (Q7.out.2.1.later b) (Q7.out.2.2.later b))); replace X8 := Lib.hid (keep_bel b X8.out); replace Q8 := Lib.hid (And.intro (Q8.out.1.later b) (And.intro (Q8.out.2.1.later b) (Q8.out.2.2.later b))); replace H0 := Lib.hid (bel_trans H0.out b); replace Z := Lib.hid (keep_bel b Z.out); replace Y := Lib.hid (keep_bel b Y.out); clear x30 x31 x32 x33 x34 x40 x41 x42 x43 x44; clear x50 x51 x52 x53 x54 x60 x61 x62 x63 x64 x70 x71 x72 x73 x74 x80 x81 x82 x83 x84; obtain ⟨x50, x51, x52, x53, x54⟩ := cells5 X5.out; obtain ⟨x60, x61, x62, x63, x64⟩ := cells5 X6.out; obtain ⟨x70, x71, x72, x73, x74⟩ := cells5 X7.out; obtain ⟨x80, x81, x82, x83, x84⟩ := cells5 X8.out; clear b))
    | (go_at_call 13; ((with_reducible refine (S2.out P5 J5 M5 B5 P6 J6 M6 B6 c5p c5k c5m c5b c6p c6k c6m c6b _ Q5.out Q6.out).mono ?_); rintro e v2 ⟨rfl, b⟩; replace X3 := Lib.hid (keep_bel b X3.out); replace Q3 := Lib.hid (And.intro (Q3.out.1.later b) (And.intro (Q3.out.2.1.later b) (Q3.out.2.2.later b))); replace X4 := Lib.hid (keep_bel b X4.out); replace Q4 := Lib.hid (And.intro (Q4.out.1.later b) (And.intro (Q4.out.2.1.later b) (Q4.out.2.2.later b))); replace X5 := Lib.hid (keep_bel b X5.out); replace Q5 := Lib.hid (And.intro (Q5.out.1.later b) (And.intro (Q5.out.2.1.later b) (Q5.out.2.2.later b))); replace X6 := Lib.hid (keep_bel b X6.out); replace Q6 := Lib.hid (And.intro (Q6.out.1.later b) (And.intro (Q6.out.2.1.later b) (Q6.out.2.2.later b))); replace X7 := Lib.hid (keep_bel b X7.out); replace Q7 := Lib.hid (And.intro (Q7.out.1.later b) (And.intro (Q7.out.2.1.later b) (Q7.out.2.2.later b))); replace X8 := Lib.hid (keep_bel b X8.out); replace Q8 := Lib.hid (And.intro (Q8.out.1.later b) (And.intro (Q8.out.2.1.later b) (Q8.out.2.2.later b))); replace H0 := Lib.hid (bel_trans H0.out b); replace Z := Lib.hid (keep_bel b Z.out); replace Y := Lib.hid (keep_bel b Y.out); clear x50 x51 x52 x53 x54 x60 x61 x62 x63 x64; clear x70 x71 x72 x73 x74 x80 x81 x82 x83 x84; obtain ⟨x70, x71, x72, x73, x74⟩ := cells5 X7.out; obtain ⟨x80, x81, x82, x83, x84⟩ := cells5 X8.out; clear b))
    | (go_at_call 13; ((with_reducible refine (S3.out P7 J7 M7 B7 P8 J8 M8 B8 c7p c7k c7m c7b c8p c8k c8m c8b _ Q7.out Q8.out).mono ?_); rintro e v3 ⟨rfl, b⟩; replace X3 := Lib.hid (keep_bel b X3.out); replace Q3 := Lib.hid (And.intro (Q3.out.1.later b) (And.intro (Q3.out.2.1.later b) (Q3.out.2.2.later b))); replace X4 := Lib.hid (keep_bel b X4.out); replace Q4 := Lib.hid (And.intro (Q4.out.1.later b) (And.intro (Q4.out.2.1.later b) (Q4.out.2.2.later b))); replace X5 := Lib.hid (keep_bel b X5.out); replace Q5 := Lib.hid (And.intro (Q5.out.1.later b) (And.intro (Q5.out.2.1.later b) (Q5.out.2.2.later b))); replace X6 := Lib.hid (keep_bel b X6.out); replace Q6 := Lib.hid (And.intro (Q6.out.1.later b) (And.intro (Q6.out.2.1.later b) (Q6.out.2.2.later b))); replace X7 := Lib.hid (keep_bel b X7.out); replace Q7 := Lib.hid (And.intro (Q7.out.1.later b) (And.intro (Q7.out.2.1.later b) (Q7.out.2.2.later b))); replace X8 := Lib.hid (keep_bel b X8.out); replace Q8 := Lib.hid (And.intro (Q8.out.1.later b) (And.intro (Q8.out.2.1.later b) (Q8.out.2.2.later b))); replace H0 := Lib.hid (bel_trans H0.out b); replace Z := Lib.hid (keep_bel b Z.out); replace Y := Lib.hid (keep_bel b Y.out); clear x70 x71 x72 x73 x74 x80 x81 x82 x83 x84; clear b))
    | fail)
  clear S1 S2 S3 HB X4 X6 X7 X8 Q4 Q6 Q7 Q8
  obtain ⟨c0, c1, c2, c3, c4⟩ := cells5 Z.out
  go_upto_region 12 with (first
    | (go_at_call 25; ((with_reducible refine (PL.out _ H0.out).mono ?_); rintro e v4 ⟨⟨jj, rfl⟩, b⟩; replace X3 := Lib.hid (keep_bel b X3.out); replace X5 := Lib.hid (keep_bel b X5.out); replace H0 := Lib.hid (bel_trans H0.out b); replace Y := Lib.hid (keep_bel b Y.out); replace Q3 := Lib.hid (And.intro (Q3.out.1.later b) (And.intro (Q3.out.2.1.later b) (Q3.out.2.2.later b))); replace Q5 := Lib.hid (And.intro (Q5.out.1.later b) (And.intro (Q5.out.2.1.later b) (Q5.out.2.2.later b))); clear b c0 c1 c2 c3 c4))
    | fail)
  clear Z PL
  obtain ⟨th, hth⟩ : ∃ th, th = hasI ks kid := ⟨_, rfl⟩
  rw [← hth] at R1 ⊢
  obtain ⟨hd, hhd⟩ : ∃ hd, hd = has f t s := ⟨_, rfl⟩
  have HA26 := Lib.hid (fun W => rholds_any f t s W)
  rw [← hhd] at R1 HA26
  clear hth hhd
  cases o1
  · obtain ⟨d0, d1', -, -⟩ := has_two Y.out
    obtain ⟨x30, x31, x32, x33, x34⟩ := cells5 X3.out
    clear R1 HA26
    go_upto_region 14 with (first
      | fail)
    clear X3 Q3
    cases o2
    · clear R2
      go_wp2_with (first
        | (go_at_call 9; ((with_reducible refine (live_true _).mono ?_); rintro e v7 ⟨rfl, b⟩; replace X5 := Lib.hid (keep_bel b X5.out); replace H0 := Lib.hid (bel_trans H0.out b); replace Y := Lib.hid (keep_bel b Y.out); replace Q5 := Lib.hid (And.intro (Q5.out.1.later b) (And.intro (Q5.out.2.1.later b) (Q5.out.2.2.later b))); clear b d0 d1'; obtain ⟨d0, d1', -, -⟩ := has_two Y.out; obtain ⟨x50, x51, x52, x53, x54⟩ := cells5 X5.out))
        | fail)
      go_ret
      exact ⟨rfl, H0.out⟩
    · have RY := Lib.hid (R2.out rfl)
      clear R2
      go_wp2_with (first
        | (go_at_call 9; ((with_reducible refine (live_true _).mono ?_); rintro e v7 ⟨rfl, b⟩; replace X5 := Lib.hid (keep_bel b X5.out); replace H0 := Lib.hid (bel_trans H0.out b); replace Y := Lib.hid (keep_bel b Y.out); replace Q5 := Lib.hid (And.intro (Q5.out.1.later b) (And.intro (Q5.out.2.1.later b) (Q5.out.2.2.later b))); clear b d0 d1'; obtain ⟨d0, d1', -, -⟩ := has_two Y.out; obtain ⟨x50, x51, x52, x53, x54⟩ := cells5 X5.out))
        | (go_at_call 16; ((with_reducible refine (RY.out P5 J5 M5 B5 c5p c5k c5m c5b _ Q5.out.1 Q5.out.2.1 Q5.out.2.2).mono ?_); rintro e v8 ⟨rfl, b⟩; replace H0 := Lib.hid (bel_trans H0.out b); clear b))
        | fail)
      go_ret
      exact ⟨rfl, H0.out⟩
  · cases th
    rotate_left
    · obtain ⟨d0, d1', -, -⟩ := has_two Y.out
      obtain ⟨x30, x31, x32, x33, x34⟩ := cells5 X3.out
      clear R1 HA26
      go_upto_region 14 with (first
        | fail)
      clear X3 Q3
      cases o2
      · clear R2
        go_wp2_with (first
          | (go_at_call 9; ((with_reducible refine (live_true _).mono ?_); rintro e v7 ⟨rfl, b⟩; replace X5 := Lib.hid (keep_bel b X5.out); replace H0 := Lib.hid (bel_trans H0.out b); replace Y := Lib.hid (keep_bel b Y.out); replace Q5 := Lib.hid (And.intro (Q5.out.1.later b) (And.intro (Q5.out.2.1.later b) (Q5.out.2.2.later b))); clear b d0 d1'; obtain ⟨d0, d1', -, -⟩ := has_two Y.out; obtain ⟨x50, x51, x52, x53, x54⟩ := cells5 X5.out))
          | fail)
        go_ret
        exact ⟨rfl, H0.out⟩
      · have RY := Lib.hid (R2.out rfl)
        clear R2
        go_wp2_with (first
          | (go_at_call 9; ((with_reducible refine (live_true _).mono ?_); rintro e v7 ⟨rfl, b⟩; replace X5 := Lib.hid (keep_bel b X5.out); replace H0 := Lib.hid (bel_trans H0.out b); replace Y := Lib.hid (keep_bel b Y.out); replace Q5 := Lib.hid (And.intro (Q5.out.1.later b) (And.intro (Q5.out.2.1.later b) (Q5.out.2.2.later b))); clear b d0 d1'; obtain ⟨d0, d1', -, -⟩ := has_two Y.out; obtain ⟨x50, x51, x52, x53, x54⟩ := cells5 X5.out))
          | (go_at_call 16; ((with_reducible refine (RY.out P5 J5 M5 B5 c5p c5k c5m c5b _ Q5.out.1 Q5.out.2.1 Q5.out.2.2).mono ?_); rintro e v8 ⟨rfl, b⟩; replace H0 := Lib.hid (bel_trans H0.out b); clear b))
          | fail)
        go_ret
        exact ⟨rfl, H0.out⟩
    · by_cases hk1 : 1 ≤ kid
      rotate_left
      · obtain ⟨d0, d1', -, -⟩ := has_two Y.out
        obtain ⟨x30, x31, x32, x33, x34⟩ := cells5 X3.out
        clear R1 HA26
        have hk2 : ¬ kid ≥ 1 := by omega
        go_upto_region 14 with (first
          | fail)
        clear X3 Q3
        cases o2
        · clear R2
          go_wp2_with (first
            | (go_at_call 9; ((with_reducible refine (live_true _).mono ?_); rintro e v7 ⟨rfl, b⟩; replace X5 := Lib.hid (keep_bel b X5.out); replace H0 := Lib.hid (bel_trans H0.out b); replace Y := Lib.hid (keep_bel b Y.out); replace Q5 := Lib.hid (And.intro (Q5.out.1.later b) (And.intro (Q5.out.2.1.later b) (Q5.out.2.2.later b))); clear b d0 d1'; obtain ⟨d0, d1', -, -⟩ := has_two Y.out; obtain ⟨x50, x51, x52, x53, x54⟩ := cells5 X5.out))
            | fail)
          go_ret
          exact ⟨rfl, H0.out⟩
        · have RY := Lib.hid (R2.out rfl)
          clear R2
          go_wp2_with (first
            | (go_at_call 9; ((with_reducible refine (live_true _).mono ?_); rintro e v7 ⟨rfl, b⟩; replace X5 := Lib.hid (keep_bel b X5.out); replace H0 := Lib.hid (bel_trans H0.out b); replace Y := Lib.hid (keep_bel b Y.out); replace Q5 := Lib.hid (And.intro (Q5.out.1.later b) (And.intro (Q5.out.2.1.later b) (Q5.out.2.2.later b))); clear b d0 d1'; obtain ⟨d0, d1', -, -⟩ := has_two Y.out; obtain ⟨x50, x51, x52, x53, x54⟩ := cells5 X5.out))
            | (go_at_call 16; ((with_reducible refine (RY.out P5 J5 M5 B5 c5p c5k c5m c5b _ Q5.out.1 Q5.out.2.1 Q5.out.2.2).mono ?_); rintro e v8 ⟨rfl, b⟩; replace H0 := Lib.hid (bel_trans H0.out b); clear b))
            | fail)
          go_ret
          exact ⟨rfl, H0.out⟩
      · have hk3 : kid ≥ 1 := hk1
        by_cases hk2 : kid ≤ 4096
        rotate_left
        · obtain ⟨d0, d1', -, -⟩ := has_two Y.out
          obtain ⟨x30, x31, x32, x33, x34⟩ := cells5 X3.out
          clear R1 HA26
          go_upto_region 14 with (first
            | fail)
          clear X3 Q3
          cases o2
          · clear R2
            go_wp2_with (first
              | (go_at_call 9; ((with_reducible refine (live_true _).mono ?_); rintro e v7 ⟨rfl, b⟩; replace X5 := Lib.hid (keep_bel b X5.out); replace H0 := Lib.hid (bel_trans H0.out b); replace Y := Lib.hid (keep_bel b Y.out); replace Q5 := Lib.hid (And.intro (Q5.out.1.later b) (And.intro (Q5.out.2.1.later b) (Q5.out.2.2.later b))); clear b d0 d1'; obtain ⟨d0, d1', -, -⟩ := has_two Y.out; obtain ⟨x50, x51, x52, x53, x54⟩ := cells5 X5.out))
              | fail)
            go_ret
            exact ⟨rfl, H0.out⟩
          · have RY := Lib.hid (R2.out rfl)
            clear R2
            go_wp2_with (first
              | (go_at_call 9; ((with_reducible refine (live_true _).mono ?_); rintro e v7 ⟨rfl, b⟩; replace X5 := Lib.hid (keep_bel b X5.out); replace H0 := Lib.hid (bel_trans H0.out b); replace Y := Lib.hid (keep_bel b Y.out); replace Q5 := Lib.hid (And.intro (Q5.out.1.later b) (And.intro (Q5.out.2.1.later b) (Q5.out.2.2.later b))); clear b d0 d1'; obtain ⟨d0, d1', -, -⟩ := has_two Y.out; obtain ⟨x50, x51, x52, x53, x54⟩ := cells5 X5.out))
              | (go_at_call 16; ((with_reducible refine (RY.out P5 J5 M5 B5 c5p c5k c5m c5b _ Q5.out.1 Q5.out.2.1 Q5.out.2.2).mono ?_); rintro e v8 ⟨rfl, b⟩; replace H0 := Lib.hid (bel_trans H0.out b); clear b))
              | fail)
            go_ret
            exact ⟨rfl, H0.out⟩
        · cases hd
          · obtain ⟨d0, d1', -, -⟩ := has_two Y.out
            obtain ⟨x30, x31, x32, x33, x34⟩ := cells5 X3.out
            clear R1
            go_upto_region 14 with (first
              | (go_at_call 26; ((with_reducible refine (HA26.out _).mono ?_); rintro e v5 ⟨rfl, b⟩; replace X3 := Lib.hid (keep_bel b X3.out); replace X5 := Lib.hid (keep_bel b X5.out); replace H0 := Lib.hid (bel_trans H0.out b); replace Y := Lib.hid (keep_bel b Y.out); replace Q3 := Lib.hid (And.intro (Q3.out.1.later b) (And.intro (Q3.out.2.1.later b) (Q3.out.2.2.later b))); replace Q5 := Lib.hid (And.intro (Q5.out.1.later b) (And.intro (Q5.out.2.1.later b) (Q5.out.2.2.later b))); clear b d0 d1' x30 x31 x32 x33 x34; obtain ⟨d0, d1', -, -⟩ := has_two Y.out; obtain ⟨x30, x31, x32, x33, x34⟩ := cells5 X3.out))
              | fail)
            clear X3 Q3
            cases o2
            · clear R2
              go_wp2_with (first
                | (go_at_call 9; ((with_reducible refine (live_true _).mono ?_); rintro e v7 ⟨rfl, b⟩; replace X5 := Lib.hid (keep_bel b X5.out); replace H0 := Lib.hid (bel_trans H0.out b); replace Y := Lib.hid (keep_bel b Y.out); replace Q5 := Lib.hid (And.intro (Q5.out.1.later b) (And.intro (Q5.out.2.1.later b) (Q5.out.2.2.later b))); clear b d0 d1'; obtain ⟨d0, d1', -, -⟩ := has_two Y.out; obtain ⟨x50, x51, x52, x53, x54⟩ := cells5 X5.out))
                | fail)
              go_ret
              exact ⟨rfl, H0.out⟩
            · have RY := Lib.hid (R2.out rfl)
              clear R2
              go_wp2_with (first
                | (go_at_call 9; ((with_reducible refine (live_true _).mono ?_); rintro e v7 ⟨rfl, b⟩; replace X5 := Lib.hid (keep_bel b X5.out); replace H0 := Lib.hid (bel_trans H0.out b); replace Y := Lib.hid (keep_bel b Y.out); replace Q5 := Lib.hid (And.intro (Q5.out.1.later b) (And.intro (Q5.out.2.1.later b) (Q5.out.2.2.later b))); clear b d0 d1'; obtain ⟨d0, d1', -, -⟩ := has_two Y.out; obtain ⟨x50, x51, x52, x53, x54⟩ := cells5 X5.out))
                | (go_at_call 16; ((with_reducible refine (RY.out P5 J5 M5 B5 c5p c5k c5m c5b _ Q5.out.1 Q5.out.2.1 Q5.out.2.2).mono ?_); rintro e v8 ⟨rfl, b⟩; replace H0 := Lib.hid (bel_trans H0.out b); clear b))
                | fail)
              go_ret
              exact ⟨rfl, H0.out⟩
          · by_cases hsf : s.toList = f.toList
            · obtain ⟨d0, d1', -, -⟩ := has_two Y.out
              obtain ⟨x30, x31, x32, x33, x34⟩ := cells5 X3.out
              clear R1
              go_upto_region 14 with (first
                | (go_at_call 26; ((with_reducible refine (HA26.out _).mono ?_); rintro e v5 ⟨rfl, b⟩; replace X3 := Lib.hid (keep_bel b X3.out); replace X5 := Lib.hid (keep_bel b X5.out); replace H0 := Lib.hid (bel_trans H0.out b); replace Y := Lib.hid (keep_bel b Y.out); replace Q3 := Lib.hid (And.intro (Q3.out.1.later b) (And.intro (Q3.out.2.1.later b) (Q3.out.2.2.later b))); replace Q5 := Lib.hid (And.intro (Q5.out.1.later b) (And.intro (Q5.out.2.1.later b) (Q5.out.2.2.later b))); clear b d0 d1' x30 x31 x32 x33 x34; obtain ⟨d0, d1', -, -⟩ := has_two Y.out; obtain ⟨x30, x31, x32, x33, x34⟩ := cells5 X3.out))
                | fail)
              clear X3 Q3
              cases o2
              · clear R2
                go_wp2_with (first
                  | (go_at_call 9; ((with_reducible refine (live_true _).mono ?_); rintro e v7 ⟨rfl, b⟩; replace X5 := Lib.hid (keep_bel b X5.out); replace H0 := Lib.hid (bel_trans H0.out b); replace Y := Lib.hid (keep_bel b Y.out); replace Q5 := Lib.hid (And.intro (Q5.out.1.later b) (And.intro (Q5.out.2.1.later b) (Q5.out.2.2.later b))); clear b d0 d1'; obtain ⟨d0, d1', -, -⟩ := has_two Y.out; obtain ⟨x50, x51, x52, x53, x54⟩ := cells5 X5.out))
                  | fail)
                go_ret
                exact ⟨rfl, H0.out⟩
              · have RY := Lib.hid (R2.out rfl)
                clear R2
                go_wp2_with (first
                  | (go_at_call 9; ((with_reducible refine (live_true _).mono ?_); rintro e v7 ⟨rfl, b⟩; replace X5 := Lib.hid (keep_bel b X5.out); replace H0 := Lib.hid (bel_trans H0.out b); replace Y := Lib.hid (keep_bel b Y.out); replace Q5 := Lib.hid (And.intro (Q5.out.1.later b) (And.intro (Q5.out.2.1.later b) (Q5.out.2.2.later b))); clear b d0 d1'; obtain ⟨d0, d1', -, -⟩ := has_two Y.out; obtain ⟨x50, x51, x52, x53, x54⟩ := cells5 X5.out))
                  | (go_at_call 16; ((with_reducible refine (RY.out P5 J5 M5 B5 c5p c5k c5m c5b _ Q5.out.1 Q5.out.2.1 Q5.out.2.2).mono ?_); rintro e v8 ⟨rfl, b⟩; replace H0 := Lib.hid (bel_trans H0.out b); clear b))
                  | fail)
                go_ret
                exact ⟨rfl, H0.out⟩
            · obtain ⟨d0, d1', -, -⟩ := has_two Y.out
              obtain ⟨x30, x31, x32, x33, x34⟩ := cells5 X3.out
              have RX := Lib.hid (R1.out rfl rfl hk1 hk2 rfl (fun e => hsf (by rw [e])))
              clear R1
              go_upto_region 14 with (first
                | (go_at_call 26; ((with_reducible refine (HA26.out _).mono ?_); rintro e v5 ⟨rfl, b⟩; replace X3 := Lib.hid (keep_bel b X3.out); replace X5 := Lib.hid (keep_bel b X5.out); replace H0 := Lib.hid (bel_trans H0.out b); replace Y := Lib.hid (keep_bel b Y.out); replace Q3 := Lib.hid (And.intro (Q3.out.1.later b) (And.intro (Q3.out.2.1.later b) (Q3.out.2.2.later b))); replace Q5 := Lib.hid (And.intro (Q5.out.1.later b) (And.intro (Q5.out.2.1.later b) (Q5.out.2.2.later b))); clear b d0 d1' x30 x31 x32 x33 x34; obtain ⟨d0, d1', -, -⟩ := has_two Y.out; obtain ⟨x30, x31, x32, x33, x34⟩ := cells5 X3.out))
                | (go_at_call 16; ((with_reducible refine (RX.out P3 J3 M3 B3 c3p c3k c3m c3b _ Q3.out.1 Q3.out.2.1 Q3.out.2.2).mono ?_); rintro e v6 ⟨rfl, b⟩; replace X5 := Lib.hid (keep_bel b X5.out); replace H0 := Lib.hid (bel_trans H0.out b); replace Y := Lib.hid (keep_bel b Y.out); replace Q5 := Lib.hid (And.intro (Q5.out.1.later b) (And.intro (Q5.out.2.1.later b) (Q5.out.2.2.later b))); clear b d0 d1' x30 x31 x32 x33 x34; obtain ⟨d0, d1', -, -⟩ := has_two Y.out))
                | fail)
              clear X3 Q3
              cases o2
              · clear R2
                go_wp2_with (first
                  | (go_at_call 9; ((with_reducible refine (live_true _).mono ?_); rintro e v7 ⟨rfl, b⟩; replace X5 := Lib.hid (keep_bel b X5.out); replace H0 := Lib.hid (bel_trans H0.out b); replace Y := Lib.hid (keep_bel b Y.out); replace Q5 := Lib.hid (And.intro (Q5.out.1.later b) (And.intro (Q5.out.2.1.later b) (Q5.out.2.2.later b))); clear b d0 d1'; obtain ⟨d0, d1', -, -⟩ := has_two Y.out; obtain ⟨x50, x51, x52, x53, x54⟩ := cells5 X5.out))
                  | fail)
                go_ret
                exact ⟨rfl, H0.out⟩
              · have RY := Lib.hid (R2.out rfl)
                clear R2
                go_wp2_with (first
                  | (go_at_call 9; ((with_reducible refine (live_true _).mono ?_); rintro e v7 ⟨rfl, b⟩; replace X5 := Lib.hid (keep_bel b X5.out); replace H0 := Lib.hid (bel_trans H0.out b); replace Y := Lib.hid (keep_bel b Y.out); replace Q5 := Lib.hid (And.intro (Q5.out.1.later b) (And.intro (Q5.out.2.1.later b) (Q5.out.2.2.later b))); clear b d0 d1'; obtain ⟨d0, d1', -, -⟩ := has_two Y.out; obtain ⟨x50, x51, x52, x53, x54⟩ := cells5 X5.out))
                  | (go_at_call 16; ((with_reducible refine (RY.out P5 J5 M5 B5 c5p c5k c5m c5b _ Q5.out.1 Q5.out.2.1 Q5.out.2.2).mono ?_); rintro e v8 ⟨rfl, b⟩; replace H0 := Lib.hid (bel_trans H0.out b); clear b))
                  | fail)
                go_ret
                exact ⟨rfl, H0.out⟩
end Go.Proofs.Ytilnpeekajnlhaa
