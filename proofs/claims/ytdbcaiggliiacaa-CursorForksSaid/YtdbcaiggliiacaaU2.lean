/- A deed on both tables: what is still to tell; any deed. -/
import Derived.Test.YtdbcaiggliiacaaU1
namespace Go.Proofs.Ytdbcaiggliiacaa
set_option linter.unusedSimpArgs false
open Go.RowKit Go.Maps
set_option linter.unusedVariables false
set_option maxHeartbeats 1000000 in
theorem left_none {w : World} {N M m n : Nat} {last : Int} {S : Int → Option Cur} (h : PT w N M m n last S) (x : Int) (hx : (Lit.int .i64 x).wf = true) (hc : S x = none) :
    Calls Try.prog 16 #[.pointer (some ⟨N, 0, none⟩), .int .i64 x] w fun r w' => r = .returned (.tuple #[.agg #[.string ⟨#[]⟩, .string ⟨#[]⟩], .bool false, .int .i64 11]) ∧ Below w.heap.size w w' := by
  have F := Lib.hid (find_none (h.later (alb w (.cells #[.string ⟨#[]⟩, .string ⟨#[]⟩] 29))) x hx hc)
  have HA := Lib.hid (alb w (.cells #[.string ⟨#[]⟩, .string ⟨#[]⟩] 29))
  clear h hc
  go_enter Try.func16, Try.ntmps16
  go_wp2_with (first
    | (go_at_call 30; ((with_reducible refine F.out.mono ?_); rintro e w1 ⟨rfl, b1⟩; have BB := Lib.hid b1; have B1 := Lib.hid (bel_trans HA.out b1); clear b1))
    | fail)
  have z0 : (w1.alloc (.cells #[.string ⟨#[]⟩, .string ⟨#[]⟩, .bool false] 73)).heap[w.heap.size]? = some (.cells #[.string ⟨#[]⟩, .string ⟨#[]⟩] 29 (0, 0)) := keep_bel (alb w1 _) (keep_bel BB.out (heap_alloc_new w _))
  have z1 := heap_alloc_new w1 (.cells #[.string ⟨#[]⟩, .string ⟨#[]⟩, .bool false] 73)
  have hB := bel_alloc B1.out (.cells #[.string ⟨#[]⟩, .string ⟨#[]⟩, .bool false] 73)
  have hne : w.heap.size ≠ w1.heap.size := by have := BB.out.size; simp at this; omega
  obtain ⟨g, hg⟩ : ∃ g, g = w1.heap.size := ⟨_, rfl⟩
  rw [← hg] at z1 hne ⊢
  obtain ⟨W, hW⟩ : ∃ W, W = w1.alloc (.cells #[.string ⟨#[]⟩, .string ⟨#[]⟩, .bool false] 73) := ⟨_, rfl⟩
  rw [← hW] at z0 z1 hB ⊢
  clear hW hg
  have g0 : W.cell? ⟨w.heap.size, 0, none⟩ = some (.string ⟨#[]⟩) := by simp [World.cell?, z0]
  have g1 : W.cell? ⟨w.heap.size, 1, none⟩ = some (.string ⟨#[]⟩) := by simp [World.cell?, z0]
  have f0 : W.frozen? ⟨w.heap.size, 0, none⟩ = false := by simp [World.frozen?, z0]
  have f1 : W.frozen? ⟨w.heap.size, 1, none⟩ = false := by simp [World.frozen?, z0]
  have e0 : W.cell? ⟨g, 0, none⟩ = some (.string ⟨#[]⟩) := by simp [World.cell?, z1]
  have e1 : W.cell? ⟨g, 1, none⟩ = some (.string ⟨#[]⟩) := by simp [World.cell?, z1]
  have e2 : W.cell? ⟨g, 2, none⟩ = some (.bool false) := by simp [World.cell?, z1]
  obtain ⟨q0, q1, ch⟩ := box2_set z0 (.string ⟨#[]⟩) (.string ⟨#[]⟩)
  have HB := Lib.hid (hB.trans (ch.below (fun x e => by omega) hB.size))
  clear z0 z1 hB BB B1 F ch
  go_region_law (fail)
  all_goals
    go_wp2
    exact bodyPost_ret (v := .tuple #[.agg #[.string ⟨#[]⟩, .string ⟨#[]⟩], .bool false, .int .i64 11]) (by simp [results, Try.results16, go_sem, q0, q1]) rfl ⟨rfl, (by first | exact HB.out | exact bel_trans HB.out (drew_bel _))⟩
set_option maxRecDepth 10000 in
set_option maxHeartbeats 4000000 in
theorem step_ask_none {w : World} {N M m : Nat} {A : Option Addr} {q cap : Nat} {xs : List RC} (h : ST w N M m A q cap xs) (hm : m ≤ 1000) (hq : q ≤ 1000) (d n mo : Int) (hd0 : d ≠ 0) (hd1 : d ≠ 1) (hd2 : d ≠ 2) (hn : (Lit.int .i64 n).wf = true) (f t : ByteArray) (B : Option Addr) (len c : Nat) (hk : lk xs n = none) :
    Calls Try.prog 8 #[.pointer (some ⟨N, 0, none⟩), .slice A q cap, DV d n mo f t B len c] w (StepP w N M m q) := by
  have HST := Lib.hid h
  have BW := Lib.hid (alb w (DB d n mo f t B len c))
  have Z0 : Hid ((w.alloc (DB d n mo f t B len c)).heap[w.heap.size]? = some (.cells #[.int .i64 d, .int .i64 n, .int .i64 mo, .string f, .string t, .slice B len c] 32 (0, 0))) := Lib.hid (heap_alloc_new w _)
  have h0 := Lib.hid (HST.out.later BW.out)
  obtain ⟨x0, x1, x2, x3, x4, x5⟩ := cells6 Z0.out
  have LF := Lib.hid (left_none h0.out.pt n hn hk)
  have IS : Hid (∀ W, EQ.Rd W A xs → Calls Try.prog 26 #[.slice A q cap, .int .i64 n] W fun e w' => e = .returned (.bool false) ∧ W = w') := Lib.hid (fun W hW => is_none hW hk q cap h0.out.len (by omega))
  have e0 : ((⟨#[]⟩ : ByteArray).toList == (⟨#[]⟩ : ByteArray).toList) = true := by simp
  clear h hk
  go_enter Try.func8, Try.ntmps8
  go_wp2_with (first
    | (go_at_call 16; ((with_reducible refine LF.out.mono ?_); rintro e w2 ⟨rfl, b2⟩; have B2 := Lib.hid (bel_alloc b2 (.cells #[.string ⟨#[]⟩, .string ⟨#[]⟩] 29)); obtain ⟨y0, y1, y2, y3, y4, y5⟩ := cells6 (keep_bel B2.out Z0.out); clear b2))
    | (go_at_call 26; ((with_reducible refine (IS.out _ (h0.out.rd.later B2.out)).mono ?_); rintro e w3 ⟨rfl, rfl⟩))
    | fail)
  exact bodyPost_ret (v := .tuple #[.slice A q cap, .bool true]) (by simp [results, Try.results8, go_sem]) rfl ⟨A, q, cap, xs, m, rfl, HST.out.later (bel_trans BW.out B2.out), Chg.of_below (bel_trans BW.out B2.out), by omega, by omega⟩
set_option maxRecDepth 100000 in
set_option maxHeartbeats 4000000 in
theorem step_ask_some {w : World} {N M m : Nat} {A : Option Addr} {q cap : Nat} {xs : List RC} (h : ST w N M m A q cap xs) (hm : m ≤ 1000) (hq : q ≤ 1000) (d n mo : Int) (hd0 : d ≠ 0) (hd1 : d ≠ 1) (hd2 : d ≠ 2) (hn : (Lit.int .i64 n).wf = true) (f t : ByteArray) (B : Option Addr) (len c : Nat) (a1 a2 : ByteArray) (a3 : Bool) (hk : lk xs n = some (a1, a2, a3)) :
    Calls Try.prog 8 #[.pointer (some ⟨N, 0, none⟩), .slice A q cap, DV d n mo f t B len c] w (StepP w N M m q) := by
  have HST := Lib.hid h
  have BW := Lib.hid (alb w (DB d n mo f t B len c))
  have Z0 : Hid ((w.alloc (DB d n mo f t B len c)).heap[w.heap.size]? = some (.cells #[.int .i64 d, .int .i64 n, .int .i64 mo, .string f, .string t, .slice B len c] 32 (0, 0))) := Lib.hid (heap_alloc_new w _)
  have h0 := Lib.hid (HST.out.later BW.out)
  obtain ⟨x0, x1, x2, x3, x4, x5⟩ := cells6 Z0.out
  have LF := Lib.hid (left_some h0.out.pt n hn a1 a2 a3 hk)
  have IS : Hid (∀ W, EQ.Rd W A xs → Calls Try.prog 26 #[.slice A q cap, .int .i64 n] W fun e w' => e = .returned (.bool true) ∧ W = w') := Lib.hid (fun W hW => is_some hW hk q cap h0.out.len (by omega))
  have HP : Hid (∃ p : Nat, n = (p : Int) + 1 ∧ p < xs.length ∧ xs[p]? = some (a1, a2, a3, false)) := Lib.hid (lk_in hk)
  clear h hk
  go_enter Try.func8, Try.ntmps8
  go_wp2_with (first
    | (go_at_call 16; ((with_reducible refine LF.out.mono ?_); rintro e w2 ⟨rfl, b2⟩; have B2 := Lib.hid (bel_alloc b2 (.cells #[.string a1, .string a2] 29)); have RX := Lib.hid (h0.out.rd.later B2.out); have ZB := Lib.hid (heap_alloc_new w2 (.cells #[.string a1, .string a2] 29)); obtain ⟨y0, y1, y2, y3, y4, y5⟩ := cells6 (keep_bel B2.out Z0.out); clear b2))
    | (go_at_call 26; ((with_reducible refine (IS.out _ RX.out).mono ?_); rintro e w3 ⟨rfl, rfl⟩))
    | fail)
  obtain ⟨p, hnp, hp, hx⟩ := HP.out
  have hlen := h0.out.len
  have i0 : (0 : Int) ≤ (p : Int) := by omega
  have i1 : (p : Int) < (q : Int) := by omega
  have i4 : n - 1 = (p : Int) := by omega
  have i5 : IntKind.i64.wrap (p : Int) = (p : Int) := IntWalk.i64_in _ (by omega)
  have i6 : (p : Int).toNat = p := by omega
  have i7 : p < q := by omega
  have e1 : (a1.toList == a1.toList) = true := by simp
  have e2 : (a2.toList == a2.toList) = true := by simp
  have HB := Lib.hid (bel_trans BW.out B2.out)
  obtain ⟨W, hW⟩ : ∃ W, W = w2.alloc (.cells #[.string a1, .string a2] 29) := ⟨_, rfl⟩
  have z1 := ZB.out
  rw [← hW] at z1 HB RX y0 y1 y2 y3 y4 y5 ⊢
  obtain ⟨g, hg⟩ : ∃ g, g = w2.heap.size := ⟨_, rfl⟩
  rw [← hg] at z1 ⊢
  have g0 : W.cell? ⟨g, 0, none⟩ = some (.string a1) := by simp [World.cell?, z1]
  have g1 : W.cell? ⟨g, 1, none⟩ = some (.string a2) := by simp [World.cell?, z1]
  obtain ⟨b, off, rfl, hlt, c0, c1, c2, c3⟩ := eq_at RX.out hx
  simp only at c0 c1 c2 c3
  have EP : Hid (Chg (fun g => g = N ∨ g = M) w W) := Lib.hid (Chg.of_below HB.out)
  have ES : Hid (ST W N M m (some ⟨b, off, none⟩) q cap xs) := Lib.hid (HST.out.later HB.out)
  clear hW hg z1 hx hnp hp B2 ZB RX LF IS HP hlen HST h0 hlt BW Z0 hd0 hd1 hd2 hn x0 x1 x2 x3 x4 x5 HB
  go_quiet (fail)
  have HE := Lib.hid (bel_drewN (Below.refl W.heap.size W) nq)
  go_wp2
  exact bodyPost_ret (v := .tuple #[.slice (some ⟨b, off, none⟩) q cap, .bool true]) (by simp [results, Try.results8, go_sem]) rfl ⟨_, q, cap, xs, m, rfl, ES.out.later HE.out, EP.out.trans (Chg.of_below (D := fun _ => False) HE.out) (fun g hg => hg.elim), by omega, by omega⟩
theorem step_ask {w : World} {N M m : Nat} {A : Option Addr} {q cap : Nat} {xs : List RC} (h : ST w N M m A q cap xs) (hm : m ≤ 1000) (hq : q ≤ 1000) (d n mo : Int) (hd0 : d ≠ 0) (hd1 : d ≠ 1) (hd2 : d ≠ 2) (hn : (Lit.int .i64 n).wf = true) (f t : ByteArray) (B : Option Addr) (len c : Nat) :
    Calls Try.prog 8 #[.pointer (some ⟨N, 0, none⟩), .slice A q cap, DV d n mo f t B len c] w (StepP w N M m q) := by
  cases hk : lk xs n with
  | none => exact step_ask_none h hm hq d n mo hd0 hd1 hd2 hn f t B len c hk
  | some d0 =>
    obtain ⟨a1, a2, a3⟩ := d0
    exact step_ask_some h hm hq d n mo hd0 hd1 hd2 hn f t B len c a1 a2 a3 hk
theorem step_any {w : World} {N M m : Nat} {A : Option Addr} {q cap : Nat} {xs : List RC} (h : ST w N M m A q cap xs) (hm : m ≤ 1000) (hq : q ≤ 1000) (d n mo : Int) (hn : (Lit.int .i64 n).wf = true) (f t : ByteArray) (B : Option Addr) (len c : Nat) (l : List TT) (hC : Came w B len c l) (hBM : 0 < l.length → ∀ a, B = some a → a.block ≠ M) :
    Calls Try.prog 8 #[.pointer (some ⟨N, 0, none⟩), .slice A q cap, DV d n mo f t B len c] w (StepP w N M m q) := by
  by_cases h0 : d = 0
  · subst h0; exact step_open h hm hq n mo f t B len c
  by_cases h1 : d = 1
  · subst h1; exact step_close h hm hq n mo hn f t B len c
  by_cases h2 : d = 2
  · subst h2; exact step_told h hm hq n mo hn f t B len c l hC hBM
  exact step_ask h hm hq d n mo h0 h1 h2 hn f t B len c
end Go.Proofs.Ytdbcaiggliiacaa
