/- Took, whatever is told. -/
import Derived.Test.YtdbcaiggliiacaaC5
namespace Go.Proofs.Ytdbcaiggliiacaa
set_option linter.unusedSimpArgs false
open Go.RowKit Go.Maps
set_option linter.unusedVariables false
theorem took_none {w : World} {N M m n0 : Nat} {last : Int} {S : Int → Option Cur} (h : PT w N M m n0 last S) (x : Int) (hx : (Lit.int .i64 x).wf = true) (hc : S x = none) (A : Option Addr) (n c : Nat) (most : Int) :
    Calls Try.prog 13 #[.pointer (some ⟨N, 0, none⟩), .int .i64 x, .slice A n c, .int .i64 most] w fun r w' => r = .returned (.tuple #[.bool false, .int .i64 11]) ∧ Below w.heap.size w w' := by
  have F := Lib.hid (find_none h x hx hc)
  clear h hc
  go_enter Try.func13, Try.ntmps13
  go_wp2_with (first
    | (go_at_call 30; ((with_reducible refine F.out.mono ?_); rintro r w1 ⟨rfl, b1⟩; have B1 := Lib.hid (bel_alloc b1 Z73); clear b1))
    | fail)
  exact bodyPost_ret (v := .tuple #[.bool false, .int .i64 11]) (by simp [results, Try.results13, go_sem]) rfl ⟨rfl, B1.out⟩
set_option maxHeartbeats 2000000 in
set_option maxRecDepth 10000 in
theorem took_over {w : World} {N M m n0 : Nat} {last : Int} {S : Int → Option Cur} (h : PT w N M m n0 last S) (x : Int) (hx : (Lit.int .i64 x).wf = true) (f t : ByteArray) (hc : S x = some (f, t, true))
    (A : Option Addr) (n c : Nat) (l : List TT) (most : Int) (hl : l.length = n) (hn9 : n ≤ 1000000000) (hA : RdT w A l) (h1 : 0 < n) :
    Calls Try.prog 13 #[.pointer (some ⟨N, 0, none⟩), .int .i64 x, .slice A n c, .int .i64 most] w fun r w' => r = .returned (.tuple #[.bool false, .int .i64 15]) ∧ Below w.heap.size w w' := by
  have HA := Lib.hid hA
  have F := Lib.hid (find_some h x hx f t true hc)
  have h1 : (0 : Int) < (n : Int) := by omega
  clear h hA hl hc
  go_enter Try.func13, Try.ntmps13
  go_wp2_with (first
    | (go_at_call 30; ((with_reducible refine F.out.mono ?_); rintro r w1 ⟨rfl, b1⟩; have B1 := Lib.hid (bel_alloc b1 (.cells #[.string f, .string t, .bool true] 73)); have Z1 := Lib.hid (heap_alloc_new w1 (.cells #[.string f, .string t, .bool true] 73)); clear b1))
    | fail)
  exact bodyPost_ret (v := .tuple #[.bool false, .int .i64 15]) (by simp [results, Try.results13, go_sem]) rfl ⟨rfl, B1.out⟩
set_option maxHeartbeats 2000000 in
set_option maxRecDepth 10000 in
theorem took_argf {w : World} {N M m n0 : Nat} {last : Int} {S : Int → Option Cur} (h : PT w N M m n0 last S) (x : Int) (hx : (Lit.int .i64 x).wf = true) (f t : ByteArray) (hc : S x = some (f, t, false))
    (A : Option Addr) (n c : Nat) (l : List TT) (most : Int) (hl : l.length = n) (hn9 : n ≤ 1000000000) (hA : RdT w A l) (h2 : most < 1) :
    Calls Try.prog 13 #[.pointer (some ⟨N, 0, none⟩), .int .i64 x, .slice A n c, .int .i64 most] w fun r w' => r = .returned (.tuple #[.bool false, .int .i64 2]) ∧ Below w.heap.size w w' := by
  have HA := Lib.hid hA
  have F := Lib.hid (find_some h x hx f t false hc)
  clear h hA hl hc
  go_enter Try.func13, Try.ntmps13
  go_wp2_with (first
    | (go_at_call 30; ((with_reducible refine F.out.mono ?_); rintro r w1 ⟨rfl, b1⟩; have B1 := Lib.hid (bel_alloc b1 (.cells #[.string f, .string t, .bool false] 73)); have Z1 := Lib.hid (heap_alloc_new w1 (.cells #[.string f, .string t, .bool false] 73)); clear b1))
    | fail)
  exact bodyPost_ret (v := .tuple #[.bool false, .int .i64 2]) (by simp [results, Try.results13, go_sem]) rfl ⟨rfl, B1.out⟩
set_option maxHeartbeats 2000000 in
set_option maxRecDepth 10000 in
theorem took_limf {w : World} {N M m n0 : Nat} {last : Int} {S : Int → Option Cur} (h : PT w N M m n0 last S) (x : Int) (hx : (Lit.int .i64 x).wf = true) (f t : ByteArray) (hc : S x = some (f, t, false))
    (A : Option Addr) (n c : Nat) (l : List TT) (most : Int) (hl : l.length = n) (hn9 : n ≤ 1000000000) (hA : RdT w A l) (h2 : ¬ most < 1) (h3 : most < (n : Int)) :
    Calls Try.prog 13 #[.pointer (some ⟨N, 0, none⟩), .int .i64 x, .slice A n c, .int .i64 most] w fun r w' => r = .returned (.tuple #[.bool false, .int .i64 4]) ∧ Below w.heap.size w w' := by
  have HA := Lib.hid hA
  have F := Lib.hid (find_some h x hx f t false hc)
  clear h hA hl hc
  go_enter Try.func13, Try.ntmps13
  go_wp2_with (first
    | (go_at_call 30; ((with_reducible refine F.out.mono ?_); rintro r w1 ⟨rfl, b1⟩; have B1 := Lib.hid (bel_alloc b1 (.cells #[.string f, .string t, .bool false] 73)); have Z1 := Lib.hid (heap_alloc_new w1 (.cells #[.string f, .string t, .bool false] 73)); clear b1))
    | fail)
  exact bodyPost_ret (v := .tuple #[.bool false, .int .i64 4]) (by simp [results, Try.results13, go_sem]) rfl ⟨rfl, B1.out⟩
set_option maxHeartbeats 2000000 in
set_option maxRecDepth 10000 in
theorem took_ordf {w : World} {N M m n0 : Nat} {last : Int} {S : Int → Option Cur} (h : PT w N M m n0 last S) (x : Int) (hx : (Lit.int .i64 x).wf = true) (f t : ByteArray) (hc : S x = some (f, t, false))
    (A : Option Addr) (n c : Nat) (l : List TT) (most : Int) (hl : l.length = n) (hn9 : n ≤ 1000000000) (hA : RdT w A l) (h2 : ¬ most < 1) (h3 : ¬ most < (n : Int)) (h4 : ¬ ris l) :
    Calls Try.prog 13 #[.pointer (some ⟨N, 0, none⟩), .int .i64 x, .slice A n c, .int .i64 most] w fun r w' => r = .returned (.tuple #[.bool false, .int .i64 16]) ∧ Below w.heap.size w w' := by
  have HA := Lib.hid hA
  have F := Lib.hid (find_some h x hx f t false hc)
  have RI : Hid (∀ W, RdT W A l → Calls Try.prog 31 #[.slice A n c] W fun e w' => e = .returned (.bool false) ∧ Below W.heap.size W w') := Lib.hid (fun W hW => (rises_any A n c l W hl hn9 hW).mono (fun e w' h => by
    obtain ⟨⟨b, rfl, hb⟩, h2⟩ := h
    cases b with
    | false => exact ⟨rfl, h2⟩
    | true => exact absurd (hb.1 rfl) h4))
  clear h hA hl hc h4
  go_enter Try.func13, Try.ntmps13
  go_wp2_with (first
    | (go_at_call 30; ((with_reducible refine F.out.mono ?_); rintro r w1 ⟨rfl, b1⟩; have B1 := Lib.hid (bel_alloc b1 (.cells #[.string f, .string t, .bool false] 73)); have Z1 := Lib.hid (heap_alloc_new w1 (.cells #[.string f, .string t, .bool false] 73)); clear b1))
    | (go_at_call 31; ((with_reducible refine (RI.out _ (rdt_later HA.out B1.out)).mono ?_); rintro r w2 ⟨rfl, b2⟩; have B2 := Lib.hid (bel_trans B1.out b2); have Z2 := Lib.hid (keep_bel b2 Z1.out); clear b2))
    | fail)
  exact bodyPost_ret (v := .tuple #[.bool false, .int .i64 16]) (by simp [results, Try.results13, go_sem]) rfl ⟨rfl, B2.out⟩
set_option maxHeartbeats 2000000 in
set_option maxRecDepth 10000 in
theorem took_farf {w : World} {N M m n0 : Nat} {last : Int} {S : Int → Option Cur} (h : PT w N M m n0 last S) (x : Int) (hx : (Lit.int .i64 x).wf = true) (f t : ByteArray) (hc : S x = some (f, t, false))
    (A : Option Addr) (n c : Nat) (l : List TT) (most : Int) (hl : l.length = n) (hn9 : n ≤ 1000000000) (hA : RdT w A l) (h2 : ¬ most < 1) (h3 : ¬ most < (n : Int)) (h4 : ris l) (h5 : ¬ okl f t l) :
    Calls Try.prog 13 #[.pointer (some ⟨N, 0, none⟩), .int .i64 x, .slice A n c, .int .i64 most] w fun r w' => r = .returned (.tuple #[.bool false, .int .i64 16]) ∧ Below w.heap.size w w' := by
  have HA := Lib.hid hA
  have F := Lib.hid (find_some h x hx f t false hc)
  have RI : Hid (∀ W, RdT W A l → Calls Try.prog 31 #[.slice A n c] W fun e w' => e = .returned (.bool true) ∧ Below W.heap.size W w') := Lib.hid (fun W hW => (rises_any A n c l W hl hn9 hW).mono (fun e w' h => by
    obtain ⟨⟨b, rfl, hb⟩, h2⟩ := h
    rw [hb.2 h4]; exact ⟨rfl, h2⟩))
  have CO : Hid (∀ g W, RdT W A l → W.heap[g]? = some (.cells #[.string f, .string t, .bool false] 73 (0, 0)) → Calls Try.prog 32 #[.slice A n c, .func (.func 33) #[] #[.pointer (some ⟨g, 0, none⟩)]] W fun e w' => e = .returned (.bool true) ∧ Below W.heap.size W w') := Lib.hid (fun g W hW hz => by
    obtain ⟨k0, k1, _, _, _, _⟩ := cells3 hz
    exact (contains_any A n c l g f t W hl hn9 hW k0 k1).mono (fun e w' h => by
      obtain ⟨⟨b, rfl, hb⟩, h2⟩ := h
      cases b with
      | true => exact ⟨rfl, h2⟩
      | false => exact absurd (hb.1 rfl) h5))
  have hmf : ∀ (fn : Fn) (first cap : Array Value) (w : World), (Instr.makeFunc fn first cap).run Try.prog w = .ok (.func fn first cap) w := fun _ _ _ _ => rfl
  clear h hA hl hc h4 h5
  go_enter Try.func13, Try.ntmps13
  go_wp2_with (first
    | (go_at_call 30; ((with_reducible refine F.out.mono ?_); rintro r w1 ⟨rfl, b1⟩; have B1 := Lib.hid (bel_alloc b1 (.cells #[.string f, .string t, .bool false] 73)); have Z1 := Lib.hid (heap_alloc_new w1 (.cells #[.string f, .string t, .bool false] 73)); clear b1))
    | (go_at_call 31; ((with_reducible refine (RI.out _ (rdt_later HA.out B1.out)).mono ?_); rintro r w2 ⟨rfl, b2⟩; have B2 := Lib.hid (bel_trans B1.out b2); have Z2 := Lib.hid (keep_bel b2 Z1.out); clear b2))
    | (go_at_call 32; ((with_reducible refine (CO.out _ _ (rdt_later HA.out B2.out) Z2.out).mono ?_); rintro r w3 ⟨rfl, b3⟩; have B3 := Lib.hid (bel_trans B2.out b3); clear b3))
    | fail)
  exact bodyPost_ret (v := .tuple #[.bool false, .int .i64 16]) (by simp [results, Try.results13, go_sem]) rfl ⟨rfl, B3.out⟩
set_option maxHeartbeats 2000000 in
set_option maxRecDepth 10000 in
theorem took_argt {w : World} {N M m n0 : Nat} {last : Int} {S : Int → Option Cur} (h : PT w N M m n0 last S) (x : Int) (hx : (Lit.int .i64 x).wf = true) (f t : ByteArray) (hc : S x = some (f, t, true))
    (A : Option Addr) (n c : Nat) (l : List TT) (most : Int) (hl : l.length = n) (hn9 : n ≤ 1000000000) (hA : RdT w A l) (h1 : n = 0) (h2 : most < 1) :
    Calls Try.prog 13 #[.pointer (some ⟨N, 0, none⟩), .int .i64 x, .slice A n c, .int .i64 most] w fun r w' => r = .returned (.tuple #[.bool false, .int .i64 2]) ∧ Below w.heap.size w w' := by
  have HA := Lib.hid hA
  have F := Lib.hid (find_some h x hx f t true hc)
  replace h1 : ¬ (0 : Int) < (n : Int) := by omega
  clear h hA hl hc
  go_enter Try.func13, Try.ntmps13
  go_wp2_with (first
    | (go_at_call 30; ((with_reducible refine F.out.mono ?_); rintro r w1 ⟨rfl, b1⟩; have B1 := Lib.hid (bel_alloc b1 (.cells #[.string f, .string t, .bool true] 73)); have Z1 := Lib.hid (heap_alloc_new w1 (.cells #[.string f, .string t, .bool true] 73)); clear b1))
    | fail)
  exact bodyPost_ret (v := .tuple #[.bool false, .int .i64 2]) (by simp [results, Try.results13, go_sem]) rfl ⟨rfl, B1.out⟩
set_option maxHeartbeats 2000000 in
set_option maxRecDepth 10000 in
theorem took_ordt {w : World} {N M m n0 : Nat} {last : Int} {S : Int → Option Cur} (h : PT w N M m n0 last S) (x : Int) (hx : (Lit.int .i64 x).wf = true) (f t : ByteArray) (hc : S x = some (f, t, true))
    (A : Option Addr) (n c : Nat) (l : List TT) (most : Int) (hl : l.length = n) (hn9 : n ≤ 1000000000) (hA : RdT w A l) (h1 : n = 0) (h2 : ¬ most < 1) (h3 : ¬ most < (n : Int)) (h4 : ¬ ris l) :
    Calls Try.prog 13 #[.pointer (some ⟨N, 0, none⟩), .int .i64 x, .slice A n c, .int .i64 most] w fun r w' => r = .returned (.tuple #[.bool false, .int .i64 16]) ∧ Below w.heap.size w w' := by
  have HA := Lib.hid hA
  have F := Lib.hid (find_some h x hx f t true hc)
  have RI : Hid (∀ W, RdT W A l → Calls Try.prog 31 #[.slice A n c] W fun e w' => e = .returned (.bool false) ∧ Below W.heap.size W w') := Lib.hid (fun W hW => (rises_any A n c l W hl hn9 hW).mono (fun e w' h => by
    obtain ⟨⟨b, rfl, hb⟩, h2⟩ := h
    cases b with
    | false => exact ⟨rfl, h2⟩
    | true => exact absurd (hb.1 rfl) h4))
  replace h1 : ¬ (0 : Int) < (n : Int) := by omega
  clear h hA hl hc h4
  go_enter Try.func13, Try.ntmps13
  go_wp2_with (first
    | (go_at_call 30; ((with_reducible refine F.out.mono ?_); rintro r w1 ⟨rfl, b1⟩; have B1 := Lib.hid (bel_alloc b1 (.cells #[.string f, .string t, .bool true] 73)); have Z1 := Lib.hid (heap_alloc_new w1 (.cells #[.string f, .string t, .bool true] 73)); clear b1))
    | (go_at_call 31; ((with_reducible refine (RI.out _ (rdt_later HA.out B1.out)).mono ?_); rintro r w2 ⟨rfl, b2⟩; have B2 := Lib.hid (bel_trans B1.out b2); have Z2 := Lib.hid (keep_bel b2 Z1.out); clear b2))
    | fail)
  exact bodyPost_ret (v := .tuple #[.bool false, .int .i64 16]) (by simp [results, Try.results13, go_sem]) rfl ⟨rfl, B2.out⟩
set_option maxHeartbeats 2000000 in
set_option maxRecDepth 10000 in
theorem took_fart {w : World} {N M m n0 : Nat} {last : Int} {S : Int → Option Cur} (h : PT w N M m n0 last S) (x : Int) (hx : (Lit.int .i64 x).wf = true) (f t : ByteArray) (hc : S x = some (f, t, true))
    (A : Option Addr) (n c : Nat) (l : List TT) (most : Int) (hl : l.length = n) (hn9 : n ≤ 1000000000) (hA : RdT w A l) (h1 : n = 0) (h2 : ¬ most < 1) (h3 : ¬ most < (n : Int)) (h4 : ris l) (h5 : ¬ okl f t l) :
    Calls Try.prog 13 #[.pointer (some ⟨N, 0, none⟩), .int .i64 x, .slice A n c, .int .i64 most] w fun r w' => r = .returned (.tuple #[.bool false, .int .i64 16]) ∧ Below w.heap.size w w' := by
  have HA := Lib.hid hA
  have F := Lib.hid (find_some h x hx f t true hc)
  have RI : Hid (∀ W, RdT W A l → Calls Try.prog 31 #[.slice A n c] W fun e w' => e = .returned (.bool true) ∧ Below W.heap.size W w') := Lib.hid (fun W hW => (rises_any A n c l W hl hn9 hW).mono (fun e w' h => by
    obtain ⟨⟨b, rfl, hb⟩, h2⟩ := h
    rw [hb.2 h4]; exact ⟨rfl, h2⟩))
  have CO : Hid (∀ g W, RdT W A l → W.heap[g]? = some (.cells #[.string f, .string t, .bool true] 73 (0, 0)) → Calls Try.prog 32 #[.slice A n c, .func (.func 33) #[] #[.pointer (some ⟨g, 0, none⟩)]] W fun e w' => e = .returned (.bool true) ∧ Below W.heap.size W w') := Lib.hid (fun g W hW hz => by
    obtain ⟨k0, k1, _, _, _, _⟩ := cells3 hz
    exact (contains_any A n c l g f t W hl hn9 hW k0 k1).mono (fun e w' h => by
      obtain ⟨⟨b, rfl, hb⟩, h2⟩ := h
      cases b with
      | true => exact ⟨rfl, h2⟩
      | false => exact absurd (hb.1 rfl) h5))
  have hmf : ∀ (fn : Fn) (first cap : Array Value) (w : World), (Instr.makeFunc fn first cap).run Try.prog w = .ok (.func fn first cap) w := fun _ _ _ _ => rfl
  replace h1 : ¬ (0 : Int) < (n : Int) := by omega
  clear h hA hl hc h4 h5
  go_enter Try.func13, Try.ntmps13
  go_wp2_with (first
    | (go_at_call 30; ((with_reducible refine F.out.mono ?_); rintro r w1 ⟨rfl, b1⟩; have B1 := Lib.hid (bel_alloc b1 (.cells #[.string f, .string t, .bool true] 73)); have Z1 := Lib.hid (heap_alloc_new w1 (.cells #[.string f, .string t, .bool true] 73)); clear b1))
    | (go_at_call 31; ((with_reducible refine (RI.out _ (rdt_later HA.out B1.out)).mono ?_); rintro r w2 ⟨rfl, b2⟩; have B2 := Lib.hid (bel_trans B1.out b2); have Z2 := Lib.hid (keep_bel b2 Z1.out); clear b2))
    | (go_at_call 32; ((with_reducible refine (CO.out _ _ (rdt_later HA.out B2.out) Z2.out).mono ?_); rintro r w3 ⟨rfl, b3⟩; have B3 := Lib.hid (bel_trans B2.out b3); clear b3))
    | fail)
  exact bodyPost_ret (v := .tuple #[.bool false, .int .i64 16]) (by simp [results, Try.results13, go_sem]) rfl ⟨rfl, B3.out⟩
/-- What becomes of a cursor that is told a chunk. -/
inductive Tk : Option Cur → List TT → Int → Except Int Cur → Prop
  | none (l : List TT) (most : Int) : Tk none l most (.error 11)
  | over (f t : ByteArray) (l : List TT) (most : Int) : 0 < l.length → Tk (some (f, t, true)) l most (.error 15)
  | arg (f t : ByteArray) (e : Bool) (l : List TT) (most : Int) : (e = false ∨ l.length = 0) → most < 1 → Tk (some (f, t, e)) l most (.error 2)
  | lim (f t : ByteArray) (e : Bool) (l : List TT) (most : Int) : (e = false ∨ l.length = 0) → ¬ most < 1 → most < (l.length : Int) → Tk (some (f, t, e)) l most (.error 4)
  | ord (f t : ByteArray) (e : Bool) (l : List TT) (most : Int) : (e = false ∨ l.length = 0) → ¬ most < 1 → ¬ most < (l.length : Int) → ¬ (ris l ∧ okl f t l) → Tk (some (f, t, e)) l most (.error 16)
  | few (f t : ByteArray) (e : Bool) (l : List TT) (most : Int) : (e = false ∨ l.length = 0) → ¬ most < 1 → ¬ most < (l.length : Int) → ris l → okl f t l → (l.length : Int) < most → Tk (some (f, t, e)) l most (.ok (⟨#[]⟩, ⟨#[]⟩, true))
  | past (f t : ByteArray) (e : Bool) (l : List TT) (most : Int) : (e = false ∨ l.length = 0) → ¬ most < 1 → ¬ most < (l.length : Int) → ris l → okl f t l → ¬ (l.length : Int) < most → sb (A0 (lastE l)) t = false → Tk (some (f, t, e)) l most (.ok (⟨#[]⟩, ⟨#[]⟩, true))
  | more (f t : ByteArray) (e : Bool) (l : List TT) (most : Int) : (e = false ∨ l.length = 0) → ¬ most < 1 → ¬ most < (l.length : Int) → ris l → okl f t l → ¬ (l.length : Int) < most → sb (A0 (lastE l)) t = true → Tk (some (f, t, e)) l most (.ok (A0 (lastE l), t, e))
theorem tk_total (o : Option Cur) (l : List TT) (most : Int) : ∃ r, Tk o l most r := by
  cases o with
  | none => exact ⟨_, .none l most⟩
  | some c =>
    obtain ⟨f, t, e⟩ := c
    by_cases h0 : e = false ∨ l.length = 0
    · by_cases h1 : most < 1
      · exact ⟨_, .arg f t e l most h0 h1⟩
      · by_cases h2 : most < (l.length : Int)
        · exact ⟨_, .lim f t e l most h0 h1 h2⟩
        · by_cases h3 : ris l ∧ okl f t l
          · by_cases h4 : (l.length : Int) < most
            · exact ⟨_, .few f t e l most h0 h1 h2 h3.1 h3.2 h4⟩
            · cases h5 : sb (A0 (lastE l)) t with
              | true => exact ⟨_, .more f t e l most h0 h1 h2 h3.1 h3.2 h4 h5⟩
              | false => exact ⟨_, .past f t e l most h0 h1 h2 h3.1 h3.2 h4 h5⟩
          · exact ⟨_, .ord f t e l most h0 h1 h2 h3⟩
    · obtain rfl : e = true := by cases e <;> simp_all
      exact ⟨_, .over f t l most (by have := fun h => h0 (.inr h); omega)⟩
/-- How Took answers. -/
def TkP (r : Except Int Cur) (w : World) (N M m n0 : Nat) (last x : Int) (S : Int → Option Cur) (e : Ending) (w' : World) : Prop :=
  match r with
  | .error z => e = .returned (.tuple #[.bool false, .int .i64 z]) ∧ Below w.heap.size w w'
  | .ok c => e = .returned (.tuple #[.bool c.2.2, .int .i64 0]) ∧ PT w' N M (m + 1) (cntP (S x) n0) last (updC S x c) ∧ Chg (fun g => g = M) w w'
theorem took_any {w : World} {N M m n0 : Nat} {last : Int} {S : Int → Option Cur} (h : PT w N M m n0 last S) (x : Int) (hx : (Lit.int .i64 x).wf = true) (hm : m ≤ 1000000)
    (A : Option Addr) (n c : Nat) (l : List TT) (most : Int) (hl : l.length = n) (hn9 : n ≤ 1000000000) (hA : RdT w A l) (hs : (lastE l).size + 1 ≤ 9223372036854775807) (r : Except Int Cur) (hr : Tk (S x) l most r) :
    Calls Try.prog 13 #[.pointer (some ⟨N, 0, none⟩), .int .i64 x, .slice A n c, .int .i64 most] w (TkP r w N M m n0 last x S) := by
  cases hS : S x with
  | none =>
    rw [hS] at hr
    cases hr
    exact took_none h x hx hS A n c most
  | some q =>
    obtain ⟨f, t, e⟩ := q
    rw [hS] at hr
    cases hr with
    | over _ _ _ _ h1 => exact took_over h x hx f t hS A n c l most hl hn9 hA (by omega)
    | arg _ _ _ _ _ h0 h1 =>
      cases e with
      | false => exact took_argf h x hx f t hS A n c l most hl hn9 hA h1
      | true => exact took_argt h x hx f t hS A n c l most hl hn9 hA (by simpa [hl] using h0) h1
    | lim _ _ _ _ _ h0 h1 h2 =>
      rw [hl] at h2
      cases e with
      | false => exact took_limf h x hx f t hS A n c l most hl hn9 hA h1 h2
      | true => exact absurd (show l.length = 0 by simpa using h0) (by omega)
    | ord _ _ _ _ _ h0 h1 h2 h3 =>
      rw [hl] at h2
      by_cases h4 : ris l
      · have h5 : ¬ okl f t l := fun q => h3 ⟨h4, q⟩
        cases e with
        | false => exact took_farf h x hx f t hS A n c l most hl hn9 hA h1 h2 h4 h5
        | true => exact took_fart h x hx f t hS A n c l most hl hn9 hA (by simpa [hl] using h0) h1 h2 h4 h5
      · cases e with
        | false => exact took_ordf h x hx f t hS A n c l most hl hn9 hA h1 h2 h4
        | true => exact took_ordt h x hx f t hS A n c l most hl hn9 hA (by simpa [hl] using h0) h1 h2 h4
    | few _ _ _ _ _ h0 h1 h2 h3 h4 h5 =>
      rw [hl] at h0 h2 h5
      have q := took_ok h x hx f t e hS hm A n c l most hl hn9 hA h0 h1 h2 h3 h4 _ _ _ (fun W hW => behind_few A n c most f t e W h5)
      rw [hS] at q
      exact q.mono (fun e w' h => by unfold TkP; rw [hS]; exact h)
    | past _ _ _ _ _ h0 h1 h2 h3 h4 h5 h6 =>
      rw [hl] at h0 h2 h5
      have q := took_ok h x hx f t e hS hm A n c l most hl hn9 hA h0 h1 h2 h3 h4 _ _ _ (fun W hW => behind_over A n c l most f t e W hl (by omega) hn9 hW h5 hs h6)
      rw [hS] at q
      exact q.mono (fun e w' h => by unfold TkP; rw [hS]; exact h)
    | more _ _ _ _ _ h0 h1 h2 h3 h4 h5 h6 =>
      rw [hl] at h0 h2 h5
      have q := took_ok h x hx f t e hS hm A n c l most hl hn9 hA h0 h1 h2 h3 h4 _ _ _ (fun W hW => behind_more A n c l most f t e W hl (by omega) hn9 hW h5 hs h6)
      rw [hS] at q
      exact q.mono (fun e w' h => by unfold TkP; rw [hS]; exact h)
end Go.Proofs.Ytdbcaiggliiacaa
