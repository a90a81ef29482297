/- A deed on both tables: opening and closing. -/
import Derived.Test.YtdbcaiggliiacaaQ7
import Derived.Test.YtdbcaiggliiacaaT4
namespace Go.Proofs.Ytdbcaiggliiacaa
set_option linter.unusedSimpArgs false
open Go.RowKit Go.Maps
set_option linter.unusedVariables false
/-- Both tables in memory: they say the same. -/
structure ST (w : World) (N M m : Nat) (A : Option Addr) (q cap : Nat) (xs : List RC) : Prop where
  pt : PT w N M m (opn xs) (q : Int) (lk xs)
  rd : EQ.Rd w A xs
  len : xs.length = q
  apart : 0 < xs.length → ∀ a, A = some a → a.block ≠ N ∧ a.block ≠ M
theorem eq_chg {w w' : World} {D : Nat → Prop} {A : Option Addr} {xs : List RC} (h : EQ.Rd w A xs) (hc : Chg D w w') (hd : 0 < xs.length → ∀ a, A = some a → ¬ D a.block) : EQ.Rd w' A xs :=
  rd_chg (show Rd w w.heap.size A (EQ.all xs) from h) hc (fun h0 a e => hd (by rw [EQ.all_len] at h0; exact Nat.pos_of_mul_pos_right h0) a e)
theorem rdt_chg' {w w' : World} {D : Nat → Prop} {A : Option Addr} {l : List TT} (h : RdT w A l) (hc : Chg D w w') (hd : 0 < l.length → ∀ a, A = some a → ¬ D a.block) : RdT w' A l :=
  rd_chg h hc (fun h0 a e => hd (by rw [cls_len] at h0; omega) a e)
theorem ST.later {w w' : World} {N M m : Nat} {A : Option Addr} {q cap : Nat} {xs : List RC} (h : ST w N M m A q cap xs) (hb : Below w.heap.size w w') : ST w' N M m A q cap xs := ⟨h.pt.later hb, h.rd.later hb, h.len, h.apart⟩
theorem ST.chg {w w' : World} {N M m : Nat} {A : Option Addr} {q cap : Nat} {xs : List RC} {D : Nat → Prop} (h : ST w N M m A q cap xs) (hc : Chg D w w') (h1 : ¬ D N) (h2 : ¬ D M) (h3 : 0 < xs.length → ∀ a, A = some a → ¬ D a.block) : ST w' N M m A q cap xs := ⟨h.pt.keep hc h1 h2, eq_chg h.rd hc h3, h.len, h.apart⟩
def StepP (w : World) (N M m q : Nat) (e : Ending) (w' : World) : Prop := ∃ (A' : Option Addr) (q' cap' : Nat) (xs' : List RC) (m' : Nat), e = .returned (.tuple #[.slice A' q' cap', .bool true]) ∧ ST w' N M m' A' q' cap' xs' ∧ Chg (fun g => g = N ∨ g = M) w w' ∧ m' ≤ m + 1 ∧ q' ≤ q + 1
abbrev DB (d n m : Int) (f t : ByteArray) (B : Option Addr) (len c : Nat) : Obj := .cells #[.int .i64 d, .int .i64 n, .int .i64 m, .string f, .string t, .slice B len c] 32
abbrev DV (d n m : Int) (f t : ByteArray) (B : Option Addr) (len c : Nat) : Value := .agg #[.int .i64 d, .int .i64 n, .int .i64 m, .string f, .string t, .slice B len c]
theorem cells6 {W : World} {g : Nat} {a b c d e f : Value} {t : TypeId} (z : W.heap[g]? = some (.cells #[a, b, c, d, e, f] t (0, 0))) :
    W.cell? ⟨g, 0, none⟩ = some a ∧ W.cell? ⟨g, 1, none⟩ = some b ∧ W.cell? ⟨g, 2, none⟩ = some c ∧ W.cell? ⟨g, 3, none⟩ = some d ∧ W.cell? ⟨g, 4, none⟩ = some e ∧ W.cell? ⟨g, 5, none⟩ = some f := by
  simp [World.cell?, z]
set_option maxRecDepth 10000 in
set_option maxHeartbeats 4000000 in
theorem step_open {w : World} {N M m : Nat} {A : Option Addr} {q cap : Nat} {xs : List RC} (h : ST w N M m A q cap xs) (hm : m ≤ 1000) (hq : q ≤ 1000) (n mo : Int) (f t : ByteArray) (B : Option Addr) (len c : Nat) :
    Calls Try.prog 8 #[.pointer (some ⟨N, 0, none⟩), .slice A q cap, DV 0 n mo f t B len c] w (StepP w N M m q) := by
  have HST := Lib.hid h
  have BW := Lib.hid (alb w (DB 0 n mo f t B len c))
  have Z0 : Hid ((w.alloc (DB 0 n mo f t B len c)).heap[w.heap.size]? = some (.cells #[.int .i64 0, .int .i64 n, .int .i64 mo, .string f, .string t, .slice B len c] 32 (0, 0))) := Lib.hid (heap_alloc_new w _)
  have hlt := h.pt.lt
  have h0 := Lib.hid (HST.out.later BW.out)
  cases hr : sb f t with
  | false =>
    have HR := Lib.hid hr
    clear h hr
    go_enter Try.func8, Try.ntmps8
    go_wp2_with (first
      | (go_at_call 11; ((with_reducible refine (open_no h0.out.pt _ _ HR.out).mono ?_); rintro e w2 ⟨rfl, b2⟩; have B2 := Lib.hid (bel_trans BW.out b2); obtain ⟨x0, x1, x2, x3, x4, x5⟩ := cells6 (keep_bel b2 Z0.out); clear b2))
      | (go_at_call 23; ((with_reducible refine (ropen_no f t A q cap _ HR.out).mono ?_); rintro e w3 ⟨rfl, b3⟩; have B3 := Lib.hid (bel_trans B2.out b3); clear b3))
      | fail)
    exact bodyPost_ret (v := .tuple #[.slice A q cap, .bool true]) (by simp [results, Try.results8, go_sem]) rfl ⟨A, q, cap, xs, m, rfl, HST.out.later B3.out, Chg.of_below B3.out, by omega, by omega⟩
  | true =>
    have HR := Lib.hid hr
    clear h hr
    go_enter Try.func8, Try.ntmps8
    go_wp2_with (first
      | (go_at_call 11; ((with_reducible refine (open_ok h0.out.pt _ _ HR.out (by omega) (by omega) (by omega)).mono ?_); rintro e w2 ⟨rfl, p2, ch2⟩; have P2 := Lib.hid p2; have C2 := Lib.hid ch2; have X2 := Lib.hid (eq_chg h0.out.rd ch2 (fun hl a e hd => by have := h0.out.apart hl a e; omega)); obtain ⟨x0, x1, x2, x3, x4, x5⟩ := cells6 (keep_chg ch2 Z0.out (fun e => by omega)); clear p2 ch2))
      | (go_at_call 23; ((with_reducible refine (ropen_ok X2.out q cap h0.out.len (by omega) f t HR.out).mono ?_); rintro e w3 ⟨a3, q3, c3, rfl, hl3, r3, hp3, b3⟩; have HL3 := Lib.hid hl3; obtain rfl : q3 = q + 1 := (by rw [← HL3.out, List.length_append, h0.out.len]; rfl); have R3 := Lib.hid r3; have HP3 := Lib.hid hp3; have B3 := Lib.hid b3; clear hl3 r3 hp3 b3))
      | fail)
    have hpt : PT w3 N M (m + 1) (opn (xs ++ [(f, t, false, false)])) ((q + 1 : Nat) : Int) (lk (xs ++ [(f, t, false, false)])) := by
      have e1 := P2.out.later B3.out
      have hql := h0.out.len
      rw [opn_app]
      have e2 : PT w3 N M (m + 1) (cntP (lk xs ((q : Int) + 1)) (opn xs)) ((q : Int) + 1) (lk (xs ++ [(f, t, false, false)])) := e1.congr (fun k => by
        have := lk_app xs f t k
        rw [hql] at this; exact this)
      have e3 : lk xs ((q : Int) + 1) = none := by
        have := lk_last xs
        rw [hql] at this; exact this
      rw [e3] at e2
      simpa [cntP] using e2
    have hsz := C2.out.size
    exact bodyPost_ret (v := .tuple #[.slice (some a3) (q + 1) c3, .bool true]) (by simp [results, Try.results8, go_sem]) rfl ⟨some a3, q + 1, c3, _, m + 1, rfl, ⟨hpt, R3.out, HL3.out, fun hl a e => by
      cases e
      have h1 := HP3.out hl
      have h2 := BW.out.size
      omega⟩, ((Chg.of_below BW.out).trans C2.out (fun g hg => .inl hg)).trans (Chg.of_below (D := fun _ => False) B3.out) (fun g hg => hg.elim), by omega, by omega⟩
set_option maxRecDepth 10000 in
set_option maxHeartbeats 4000000 in
theorem step_close {w : World} {N M m : Nat} {A : Option Addr} {q cap : Nat} {xs : List RC} (h : ST w N M m A q cap xs) (hm : m ≤ 1000) (hq : q ≤ 1000) (n mo : Int) (hn : (Lit.int .i64 n).wf = true) (f t : ByteArray) (B : Option Addr) (len c : Nat) :
    Calls Try.prog 8 #[.pointer (some ⟨N, 0, none⟩), .slice A q cap, DV 1 n mo f t B len c] w (StepP w N M m q) := by
  have HST := Lib.hid h
  have BW := Lib.hid (alb w (DB 1 n mo f t B len c))
  have Z0 : Hid ((w.alloc (DB 1 n mo f t B len c)).heap[w.heap.size]? = some (.cells #[.int .i64 1, .int .i64 n, .int .i64 mo, .string f, .string t, .slice B len c] 32 (0, 0))) := Lib.hid (heap_alloc_new w _)
  have hlt := h.pt.lt
  have h0 := Lib.hid (HST.out.later BW.out)
  cases hk : lk xs n with
  | none =>
    have CL := Lib.hid (close_none h0.out.pt n hn hk)
    have RC' := Lib.hid (rclose_no h0.out.rd q cap h0.out.len (by omega) n hk)
    obtain ⟨x0, x1, x2, x3, x4, x5⟩ := cells6 Z0.out
    clear h hk
    go_enter Try.func8, Try.ntmps8
    go_wp2_with (first
      | (go_at_call 24; ((with_reducible refine RC'.out.mono ?_); rintro e w2 ⟨rfl, rfl⟩))
      | (go_at_call 21; ((with_reducible refine CL.out.mono ?_); rintro e w3 ⟨rfl, b3⟩; have B3 := Lib.hid (bel_trans BW.out b3); clear b3))
      | fail)
    exact bodyPost_ret (v := .tuple #[.slice A q cap, .bool true]) (by simp [results, Try.results8, go_sem]) rfl ⟨A, q, cap, xs, m, rfl, HST.out.later B3.out, Chg.of_below B3.out, by omega, by omega⟩
  | some d0 =>
    obtain ⟨p, rfl, hp, hx⟩ := lk_in hk
    obtain ⟨d1, d2, d3⟩ := d0
    have hpq : p < q := by have := h0.out.len; omega
    have RC' := Lib.hid (rclose_ok h0.out.rd q cap h0.out.len (by omega) p hpq (by rw [hk]; simp))
    have HK := Lib.hid hk
    have HX := Lib.hid hx
    have HP := Lib.hid hp
    obtain ⟨x0, x1, x2, x3, x4, x5⟩ := cells6 Z0.out
    clear h hk hx hp
    go_enter Try.func8, Try.ntmps8
    go_wp2_with (first
      | (go_at_call 24; ((with_reducible refine RC'.out.mono ?_); rintro e w2 ⟨a2, q2, c2, rfl, hl2, r2, hp2, b2⟩; have HL2 := Lib.hid hl2; obtain rfl : q2 = q := (by rw [← HL2.out, List.length_set, h0.out.len]); have R2 := Lib.hid r2; have HP2 := Lib.hid hp2; have B2 := Lib.hid b2; obtain ⟨y0, y1, y2, y3, y4, y5⟩ := cells6 (keep_bel b2 Z0.out); clear hl2 r2 hp2 b2))
      | (go_at_call 21; ((with_reducible refine (close_some (h0.out.pt.later B2.out) _ hn _ _ _ HK.out).mono ?_); rintro e w3 ⟨rfl, p3, ch3⟩; have P3 := Lib.hid p3; have C3 := Lib.hid ch3; clear p3 ch3))
      | fail)
    have hpt : PT w3 N M m (opn (xs.set p (⟨#[]⟩, ⟨#[]⟩, false, true))) (q2 : Int) (lk (xs.set p (⟨#[]⟩, ⟨#[]⟩, false, true))) := by
      have e2 := P3.out.congr (lk_close xs p HP.out ⟨#[]⟩ ⟨#[]⟩ false)
      have e3 := opn_set xs p d1 d2 ⟨#[]⟩ ⟨#[]⟩ d3 false true HX.out
      rw [HK.out] at e2
      have e4 : cntD (some (d1, d2, d3)) (opn xs) = opn (xs.set p (⟨#[]⟩, ⟨#[]⟩, false, true)) := by simp [cntD]; simp at e3; omega
      rw [e4] at e2; exact e2
    have hap : 0 < (xs.set p (⟨#[]⟩, ⟨#[]⟩, false, true)).length → a2.block ≠ N ∧ a2.block ≠ M := fun hl => by
      have h1 := HP2.out hl
      have h2 := BW.out.size
      omega
    exact bodyPost_ret (v := .tuple #[.slice (some a2) q2 c2, .bool true]) (by simp [results, Try.results8, go_sem]) rfl ⟨some a2, q2, c2, _, m, rfl, ⟨hpt, eq_chg R2.out C3.out (fun hl a e hd => by cases e; exact (hap hl).2 hd), HL2.out, fun hl a e => by cases e; exact hap hl⟩,
      (Chg.of_below (bel_trans BW.out B2.out)).trans C3.out (fun g hg => .inl (.inr hg)), by omega, by omega⟩
set_option maxRecDepth 10000 in
set_option maxHeartbeats 4000000 in
theorem step_told {w : World} {N M m : Nat} {A : Option Addr} {q cap : Nat} {xs : List RC} (h : ST w N M m A q cap xs) (hm : m ≤ 1000) (hq : q ≤ 1000) (n mo : Int) (hn : (Lit.int .i64 n).wf = true) (f t : ByteArray) (B : Option Addr) (len c : Nat) (l : List TT) (hC : Came w B len c l) (hBM : 0 < l.length → ∀ a, B = some a → a.block ≠ M) :
    Calls Try.prog 8 #[.pointer (some ⟨N, 0, none⟩), .slice A q cap, DV 2 n mo f t B len c] w (StepP w N M m q) := by
  have HST := Lib.hid h
  have HC := Lib.hid hC
  have BW := Lib.hid (alb w (DB 2 n mo f t B len c))
  have Z0 : Hid ((w.alloc (DB 2 n mo f t B len c)).heap[w.heap.size]? = some (.cells #[.int .i64 2, .int .i64 n, .int .i64 mo, .string f, .string t, .slice B len c] 32 (0, 0))) := Lib.hid (heap_alloc_new w _)
  have hlt := h.pt.lt
  have h0 := Lib.hid (HST.out.later BW.out)
  obtain ⟨x0, x1, x2, x3, x4, x5⟩ := cells6 Z0.out
  by_cases h20 : 20 < len
  · have j1 : (20 : Int) < (len : Int) := by omega
    clear h hC
    go_enter Try.func8, Try.ntmps8
    go_wp2
    exact bodyPost_ret (v := .tuple #[.slice A q cap, .bool true]) (by simp [results, Try.results8, go_sem]) rfl ⟨A, q, cap, xs, m, rfl, HST.out.later BW.out, Chg.of_below BW.out, by omega, by omega⟩
  · have j1 : ¬ (20 : Int) < (len : Int) := by omega
    obtain ⟨r, hr⟩ := tk_total (lk xs n) l mo
    have hc0 := hC.later BW.out
    have TK := Lib.hid (took_any h0.out.pt n hn (by omega) B len c l mo hc0.2.2.2.1 (by omega) hc0.2.2.2.2.1 (lastE_size hc0.2.2.2.2.2) r hr)
    have RK : Hid (∀ W, EQ.Rd W A xs → RdT W B l → Calls Try.prog 25 #[.slice A q cap, .int .i64 n, .slice B len c, .int .i64 mo] W (RTkP r W A q cap xs n)) := Lib.hid (fun W h1 h2 => rtook_any h1 q cap h0.out.len (by omega) n B len c l mo hc0.2.2.2.1 (by omega) h2 (lastE_size hc0.2.2.2.2.2) r hr)
    have HRD : Hid (RdT (w.alloc (DB 2 n mo f t B len c)) B l) := Lib.hid hc0.2.2.2.2.1
    have HBM := Lib.hid hBM
    have HR := Lib.hid hr
    clear h hC hc0 hr
    cases r with
    | error z =>
      go_enter Try.func8, Try.ntmps8
      go_wp2_with (first
        | (go_at_call 13; ((with_reducible refine TK.out.mono ?_); rintro e w2 ⟨rfl, b2⟩; have B2 := Lib.hid b2; obtain ⟨y0, y1, y2, y3, y4, y5⟩ := cells6 (keep_bel b2 Z0.out); clear b2))
        | (go_at_call 25; ((with_reducible refine (RK.out _ (h0.out.rd.later B2.out) (rdt_later HRD.out B2.out)).mono ?_); rintro e w3 ⟨rfl, b3⟩; have B3 := Lib.hid (bel_trans BW.out (bel_trans B2.out b3)); clear b3))
        | fail)
      exact bodyPost_ret (v := .tuple #[.slice A q cap, .bool true]) (by simp [results, Try.results8, go_sem]) rfl ⟨A, q, cap, xs, m, rfl, HST.out.later B3.out, Chg.of_below B3.out, by omega, by omega⟩
    | ok d =>
      obtain ⟨d1, d2, d3⟩ := d
      have hks : ∃ c0, lk xs n = some c0 := by
        cases hk : lk xs n with
        | none => have := HR.out; rw [hk] at this; cases this
        | some c0 => exact ⟨c0, rfl⟩
      obtain ⟨⟨e1, e2, e3⟩, hk⟩ := hks
      obtain ⟨p, rfl, hp, hx⟩ := lk_in hk
      have ep : ((p : Int) + 1 - 1).toNat = p := by omega
      have HK := Lib.hid hk
      have HX := Lib.hid hx
      have HP := Lib.hid hp
      have EP := Lib.hid ep
      clear hk hx hp ep
      go_enter Try.func8, Try.ntmps8
      go_wp2_with (first
        | (go_at_call 13; ((with_reducible refine TK.out.mono ?_); rintro e w2 ⟨rfl, p2, ch2⟩; have P2 := Lib.hid p2; have C2 := Lib.hid ch2; have X2 := Lib.hid (eq_chg h0.out.rd ch2 (fun hl a e hd => by have := h0.out.apart hl a e; omega)); have L2 := Lib.hid (rdt_chg' HRD.out ch2 (fun hl a e (hd : a.block = M) => HBM.out hl a e hd)); obtain ⟨y0, y1, y2, y3, y4, y5⟩ := cells6 (keep_chg ch2 Z0.out (fun (e : w.heap.size = M) => by omega)); clear p2 ch2))
        | (go_at_call 25; ((with_reducible refine (RK.out _ X2.out L2.out).mono ?_); rintro e w3 ⟨a3, q3, c3, rfl, hl3, r3, hp3, b3⟩; have HL3 := Lib.hid hl3; obtain rfl : q3 = q := (by rw [← HL3.out, List.length_set, h0.out.len]); have R3 := Lib.hid r3; have HP3 := Lib.hid hp3; have B3 := Lib.hid b3; clear hl3 r3 hp3 b3))
        | fail)
      rw [EP.out] at HL3 R3 HP3
      have hsz := C2.out.size
      have hpt : PT w3 N M (m + 1) (opn (xs.set p (d1, d2, d3, false))) (q3 : Int) (lk (xs.set p (d1, d2, d3, false))) := by
        have e4 := (P2.out.later B3.out).congr (lk_set xs p HP.out d1 d2 d3)
        have e5 := opn_set xs p e1 e2 d1 d2 e3 d3 false HX.out
        rw [HK.out] at e4
        have e6 : cntP (some (e1, e2, e3)) (opn xs) = opn (xs.set p (d1, d2, d3, false)) := by simp [cntP]; simp at e5; omega
        rw [e6] at e4; exact e4
      exact bodyPost_ret (v := .tuple #[.slice (some a3) q3 c3, .bool true]) (by simp [results, Try.results8, go_sem]) rfl ⟨some a3, q3, c3, _, m + 1, rfl, ⟨hpt, R3.out, HL3.out, fun hl a e => by
        cases e
        have h1 := HP3.out hl
        have h2 := BW.out.size
        omega⟩, ((Chg.of_below BW.out).trans C2.out (fun g hg => .inl (.inr hg))).trans (Chg.of_below (D := fun _ => False) B3.out) (fun g hg => hg.elim), by omega, by omega⟩
end Go.Proofs.Ytdbcaiggliiacaa
