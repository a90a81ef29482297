/- The document's Open and Close. -/
import Derived.Test.YtdbcaiggliiacaaQ2
namespace Go.Proofs.Ytdbcaiggliiacaa
set_option linter.unusedSimpArgs false
open Go.RowKit Go.Maps
set_option linter.unusedVariables false
/-- What a call of the document's hands back: a table, and what else. -/
def QP (w : World) (xs : List RC) (v : Nat → List Value) (e : Ending) (w' : World) : Prop := ∃ a q c, e = .returned (.tuple (.slice (some a) q c :: v q).toArray) ∧ xs.length = q ∧ EQ.Rd w' (some a) xs ∧ (0 < xs.length → w.heap.size ≤ a.block) ∧ Below w.heap.size w w'
theorem none_bel {w w' : World} {A : Option Addr} (h : w.grownBy w' (RE.fp A 0)) : Below w.heap.size w w' := ⟨h.os, h.tape, h.output, h.size, fun g hg => h.block g hg (by simp [RE.fp])⟩
theorem ropen_no (f t : ByteArray) (A : Option Addr) (q cap : Nat) (w : World) (hr : sb f t = false) :
    Calls Try.prog 23 #[.slice A q cap, .agg #[.string f, .string t]] w fun e w' => e = .returned (.tuple #[.slice A q cap, .int .i64 0, .int .i64 7]) ∧ Below w.heap.size w w' := by
  have HA := Lib.hid (alb w (.cells #[.string f, .string t] 29))
  have RR : Hid (∀ W, Calls Try.prog 12 #[.agg #[.string f, .string t]] W fun e w' => e = .returned (.bool false) ∧ Below W.heap.size W w') := Lib.hid (fun W => by
    have := rright_any f t W
    rw [hr] at this; exact this)
  clear hr
  go_enter Try.func23, Try.ntmps23
  go_wp2_with (first
    | (go_at_call 12; ((with_reducible refine (RR.out _).mono ?_); rintro e w1 ⟨rfl, b1⟩; have B1 := Lib.hid (bel_trans HA.out b1); clear b1))
    | fail)
  exact bodyPost_ret (v := .tuple #[.slice A q cap, .int .i64 0, .int .i64 7]) (by simp [results, Try.results23, go_sem]) rfl ⟨rfl, B1.out⟩
set_option maxRecDepth 10000 in
set_option maxHeartbeats 2000000 in
theorem ropen_ok {w : World} {A : Option Addr} {xs : List RC} (h : EQ.Rd w A xs) (q cap : Nat) (hq : xs.length = q) (hq2 : q ≤ 1000000) (f t : ByteArray) (hr : sb f t = true) :
    Calls Try.prog 23 #[.slice A q cap, .agg #[.string f, .string t]] w (QP w (xs ++ [(f, t, false, false)]) (fun n => [.int .i64 n, .int .i64 0])) := by
  have HX := Lib.hid h
  have HL := Lib.hid hq
  have HA := Lib.hid (alb w (.cells #[.string f, .string t] 29))
  have H0 : Hid ((w.alloc (.cells #[.string f, .string t] 29)).heap[w.heap.size]? = some (.cells #[.string f, .string t] 29 (0, 0))) := Lib.hid (heap_alloc_new w _)
  have RR : Hid (∀ W, Calls Try.prog 12 #[.agg #[.string f, .string t]] W fun e w' => e = .returned (.bool true) ∧ Below W.heap.size W w') := Lib.hid (fun W => by
    have := rright_any f t W
    rw [hr] at this; exact this)
  clear h hq hr
  go_enter Try.func23, Try.ntmps23
  go_wp2_with (first
    | (go_at_call 12; ((with_reducible refine (RR.out _).mono ?_); rintro e w1 ⟨rfl, b1⟩; have B1 := Lib.hid (bel_trans HA.out b1); have Z1 := Lib.hid (keep_bel b1 H0.out); clear b1))
    | fail)
  have X1 := Lib.hid (HX.out.later B1.out)
  obtain ⟨z0, z1⟩ := cells2 Z1.out
  have LT := Lib.hid (fun W => RE.Rd.lit (E := EQ) W 67 [(f, t, false, false)] #[.string f, .string t, .bool false, .bool false] rfl)
  have z0a := bel_later (alb w1 (.cells #[] 67)) z0
  have z1a := bel_later (alb w1 (.cells #[] 67)) z1
  go_region_law (first
    | (refine RE.step_put EQ _ rfl (.tmp 12) (.tmp 13) rfl (base := w.heap.size) _ 0 0 [] A q cap xs (by simp [Act.eval, Act.put]; rfl) (by simp [Act.eval, Act.put]) RE.Row.nil rfl (by omega) (by have := B1.out.size; simp; omega) HL.out hq2 (X1.out.later (by go_grown)) ?_; intro A2 c2 w2 r2 g2 o2; have HB2 := Lib.hid (none_bel g2); have k2 : Below w1.heap.size w1 w2 := Below.trans (by go_grown) (HB2.out.mono (by simp; try omega)); have BT := Lib.hid (bel_trans B1.out k2); have R2 : Hid (EQ.Row w2 w.heap.size A2 xs c2) := Lib.hid (by simpa using r2); have q0 := bel_later k2 z0; have q1 := bel_later k2 z1; clear r2 g2 o2)
    | (refine RE.step_put EQ _ rfl (.tmp 14) (.tmp 17) rfl (base := w.heap.size) A2 q c2 xs (some ⟨w2.heap.size, 0, none⟩) 1 1 [(f, t, false, false)] (by simp [Act.eval, Act.put]) (by simp [Act.eval, Act.put]) (R2.out.later (alb w2 _)) HL.out hq2 (bel_alloc BT.out _).size rfl (by omega) (LT.out w2) ?_; have BB := Lib.hid (bel_alloc BT.out (.cells #[.string f, .string t, .bool false, .bool false] 67)); intro A3 c3 w3 r3 g3 o3; have R3 := Lib.hid r3; have B3 := Lib.hid (BB.out.trans (R2.out.below g3 (Nat.le_refl _) BB.out.size)); clear r3 g3 o3)
    | (refine RE.step_put EQ _ rfl (.tmp 14) (.tmp 17) rfl (base := w.heap.size) A2 q c2 xs (some ⟨w1.heap.size + 1, 0, none⟩) 1 1 [(f, t, false, false)] (by simp [Act.eval, Act.put]) (by simp [Act.eval, Act.put]) R2.out HL.out hq2 BT.out.size rfl (by omega) (((show EQ.Rd ((w1.alloc (.cells #[] 67)).alloc (.cells #[.string f, .string t, .bool false, .bool false] 67)) (some ⟨w1.heap.size + 1, 0, none⟩) _ by simpa using LT.out (w1.alloc (.cells #[] 67))).later (drew_bel _)).later HB2.out) ?_; have BB := Lib.hid BT.out; intro A3 c3 w3 r3 g3 o3; have R3 := Lib.hid r3; have B3 := Lib.hid (BB.out.trans (R2.out.below g3 (Nat.le_refl _) BB.out.size)); clear r3 g3 o3)
    | (refine RE.step_put EQ _ rfl (.tmp 14) (.tmp 17) rfl (base := w.heap.size) A2 q c2 xs (some ⟨w1.heap.size, 0, none⟩) 1 1 [(f, t, false, false)] (by simp [Act.eval, Act.put]) (by simp [Act.eval, Act.put]) R2.out HL.out hq2 BT.out.size rfl (by omega) ((((show EQ.Rd (w1.alloc (.cells #[.string f, .string t, .bool false, .bool false] 67)) (some ⟨w1.heap.size, 0, none⟩) _ by simpa using LT.out w1).later (alb _ (.cells #[] 67))).later (drew_bel _)).later HB2.out) ?_; have BB := Lib.hid BT.out; intro A3 c3 w3 r3 g3 o3; have R3 := Lib.hid r3; have B3 := Lib.hid (BB.out.trans (R2.out.below g3 (Nat.le_refl _) BB.out.size)); clear r3 g3 o3)
    | fail)
  all_goals
    go_wp2
    obtain ⟨g3, cur3, rfl, hg3, _⟩ := RE.Row.block R3.out (by simp)
    exact bodyPost_ret (v := .tuple #[.slice (some ⟨g3, 0, none⟩) (q + 1) c3, .int .i64 ((q + 1 : Nat) : Int), .int .i64 0]) (by simp [results, Try.results23, go_sem]) rfl ⟨⟨g3, 0, none⟩, q + 1, c3, rfl, by rw [List.length_append, HL.out]; rfl, R3.out.rd, fun _ => hg3, B3.out⟩
set_option maxHeartbeats 1000000 in
theorem rclose_no {w : World} {A : Option Addr} {xs : List RC} (h : EQ.Rd w A xs) (q cap : Nat) (hq : xs.length = q) (hq2 : q ≤ 1000000) (n : Int) (hk : lk xs n = none) :
    Calls Try.prog 24 #[.slice A q cap, .int .i64 n] w fun e w' => e = .returned (.tuple #[.slice A q cap, .int .i64 11]) ∧ w = w' := by
  have IS := Lib.hid (is_none h hk q cap hq hq2)
  clear h hk hq
  go_enter Try.func24, Try.ntmps24
  go_wp2_with (first
    | (go_at_call 26; ((with_reducible refine IS.out.mono ?_); rintro e w1 ⟨rfl, rfl⟩))
    | fail)
  exact bodyPost_ret (v := .tuple #[.slice A q cap, .int .i64 11]) (by simp [results, Try.results24, go_sem]) rfl ⟨rfl, rfl⟩
set_option maxHeartbeats 1000000 in
theorem rclose_ok {w : World} {A : Option Addr} {xs : List RC} (h : EQ.Rd w A xs) (q cap : Nat) (hq : xs.length = q) (hq2 : q ≤ 1000000) (p : Nat) (hp : p < q) (hk : lk xs ((p : Int) + 1) ≠ none) :
    Calls Try.prog 24 #[.slice A q cap, .int .i64 ((p : Int) + 1)] w (QP w (xs.set p (⟨#[]⟩, ⟨#[]⟩, false, true)) (fun _ => [.int .i64 0])) := by
  obtain ⟨c, hc⟩ := Option.ne_none_iff_exists'.1 hk
  have IS := Lib.hid (is_some h hc q cap hq hq2)
  have WI := Lib.hid (with_any h q cap hq hq2 p hp ⟨#[]⟩ ⟨#[]⟩ false true)
  have HL := Lib.hid hq
  clear h hk hc hq
  go_enter Try.func24, Try.ntmps24
  go_wp2_with (first
    | (go_at_call 26; ((with_reducible refine IS.out.mono ?_); rintro e w1 ⟨rfl, rfl⟩))
    | (go_at_call 39; ((with_reducible refine WI.out.mono ?_); rintro e w2 ⟨a2, c2, rfl, r2, h2, b2⟩; have R2 := Lib.hid r2; have H2 := Lib.hid h2; have B2 := Lib.hid b2; clear r2 h2 b2))
    | fail)
  exact bodyPost_ret (v := .tuple #[.slice (some a2) q c2, .int .i64 0]) (by simp [results, Try.results24, go_sem]) rfl ⟨a2, q, c2, rfl, by rw [List.length_set, HL.out], R2.out, H2.out, B2.out⟩
end Go.Proofs.Ytdbcaiggliiacaa
