/- A cursor was told a chunk. -/
import Derived.Test.YtdbcaiggliiacaaC4
import Derived.Test.YtdbcaiggliiacaaN2
namespace Go.Proofs.Ytdbcaiggliiacaa
set_option linter.unusedSimpArgs false
open Go.RowKit Go.Maps
set_option linter.unusedVariables false
set_option maxHeartbeats 2000000 in
set_option maxRecDepth 10000 in
theorem took_ok {w : World} {N M m n0 : Nat} {last : Int} {S : Int → Option Cur} (h : PT w N M m n0 last S) (x : Int) (hx : (Lit.int .i64 x).wf = true) (f t : ByteArray) (e : Bool) (hc : S x = some (f, t, e)) (hm : m ≤ 1000000)
    (A : Option Addr) (n c : Nat) (l : List TT) (most : Int) (hl : l.length = n) (hn9 : n ≤ 1000000000) (hA : RdT w A l) (h1 : e = false ∨ n = 0) (h2 : ¬ most < 1) (h3 : ¬ most < (n : Int)) (h4 : ris l) (h5 : okl f t l) (a' b' : ByteArray) (e' : Bool)
    (hb : ∀ W, RdT W A l → Calls Try.prog 35 #[.agg #[.string f, .string t, .bool e], .slice A n c, .int .i64 most] W fun r w' => r = .returned (.agg #[.string a', .string b', .bool e']) ∧ Below W.heap.size W w') :
    Calls Try.prog 13 #[.pointer (some ⟨N, 0, none⟩), .int .i64 x, .slice A n c, .int .i64 most] w fun r w' => r = .returned (.tuple #[.bool e', .int .i64 0]) ∧ PT w' N M (m + 1) (cntP (S x) n0) last (updC S x (a', b', e')) ∧ Chg (fun g => g = M) w w' := by
  have HP := Lib.hid h
  have HA := Lib.hid hA
  have HL := Lib.hid hl
  have HBH := Lib.hid hb
  have F := Lib.hid (find_some h x hx f t e hc)
  have RI : Hid (∀ W, RdT W A l → Calls Try.prog 31 #[.slice A n c] W fun e w' => e = .returned (.bool true) ∧ Below W.heap.size W w') := Lib.hid (fun W hW => (rises_any A n c l W hl hn9 hW).mono (fun e w' h => by
    obtain ⟨⟨b, rfl, hb⟩, h2⟩ := h
    rw [hb.2 h4]; exact ⟨rfl, h2⟩))
  have CO : Hid (∀ g W, RdT W A l → W.heap[g]? = some (.cells #[.string f, .string t, .bool e] 73 (0, 0)) → Calls Try.prog 32 #[.slice A n c, .func (.func 33) #[] #[.pointer (some ⟨g, 0, none⟩)]] W fun e w' => e = .returned (.bool false) ∧ Below W.heap.size W w') := Lib.hid (fun g W hW hz => by
    obtain ⟨k0, k1, _, _, _, _⟩ := cells3 hz
    exact (contains_any A n c l g f t W hl hn9 hW k0 k1).mono (fun e w' h => by
      obtain ⟨⟨b, rfl, hb⟩, h2⟩ := h
      rw [hb.2 h5]; exact ⟨rfl, h2⟩))
  have hmf : ∀ (fn : Fn) (first cap : Array Value) (w : World), (Instr.makeFunc fn first cap).run Try.prog w = .ok (.func fn first cap) w := fun _ _ _ _ => rfl
  have e1 : e = true → ¬ (0 : Int) < (n : Int) := fun h => by rcases h1 with h1 | h1; rw [h] at h1; cases h1; omega
  have E1 := Lib.hid e1
  clear h hA hl hb hc h4 h5 h1 e1
  cases e
  · skip
    go_enter Try.func13, Try.ntmps13
    go_wp2_with (first
      | (go_at_call 30; ((with_reducible refine F.out.mono ?_); rintro r w1 ⟨rfl, b1⟩; have B1g := Lib.hid b1.size; have B1 := Lib.hid (bel_alloc b1 (.cells #[.string f, .string t, .bool false] 73)); have Z1 := Lib.hid (heap_alloc_new w1 (.cells #[.string f, .string t, .bool false] 73)); clear b1))
      | (go_at_call 31; ((with_reducible refine (RI.out _ (rdt_later HA.out B1.out)).mono ?_); rintro r w2 ⟨rfl, b2⟩; have B2 := Lib.hid (bel_trans B1.out b2); have Z2 := Lib.hid (keep_bel b2 Z1.out); clear b2))
      | (go_at_call 32; ((with_reducible refine (CO.out _ _ (rdt_later HA.out B2.out) Z2.out).mono ?_); rintro r w3 ⟨rfl, b3⟩; have B3 := Lib.hid (bel_trans B2.out b3); have Z3 := Lib.hid (keep_bel b3 Z2.out); obtain ⟨k0, k1, k2, _, _, _⟩ := cells3 Z3.out; clear b3))
      | (go_at_call 35; ((with_reducible refine (HBH.out _ (rdt_later HA.out B3.out)).mono ?_); rintro r w4 ⟨rfl, b4⟩; have B4 := Lib.hid (bel_trans B3.out b4); have Z4 := Lib.hid (keep_bel b4 Z3.out); obtain ⟨l0, l1, l2, y0, y1, y2⟩ := cells3 Z4.out; clear b4))
      | fail)
    obtain ⟨zz, ch⟩ := box3_set Z4.out (.string a') (.string b') (.bool e')
    have HLT := HP.out.lt
    have CW0 := (Chg.of_below (D := fun g => g = M) B4.out).trans ch (fun g e => .inr (by have := B1g.out; omega))
    have PW0 := (HP.out.later B4.out).keep ch (fun e => by have := B1g.out; omega) (fun e => by have := B1g.out; omega)
    obtain ⟨g, hg⟩ : ∃ g, g = w1.heap.size := ⟨_, rfl⟩
    rw [← hg] at zz PW0 CW0 ⊢
    obtain ⟨W, hW⟩ : ∃ W, W = (((w4.setCell ⟨g, 0, none⟩ (.string a')).setCell ⟨g, 1, none⟩ (.string b')).setCell ⟨g, 2, none⟩ (.bool e')) := ⟨_, rfl⟩
    rw [← hW] at zz PW0 CW0 ⊢
    clear Z1 Z2 Z3 Z4 B1 B2 B3 B4 ch k0 k1 k2 l0 l1 l2 y0 y1 y2 hW F RI CO HBH
    obtain ⟨q0, q1, q2, _, _, _⟩ := cells3 zz
    have c0 := PW0.c0
    have hgM : M ≠ g := by have := B1g.out; omega
    obtain ⟨w5, hrun, p5, t5⟩ := PW0.drew.store x hx a' b' e' hm
    have zz5 := keep_chg (w' := w5) t5 (show W.drew.heap[g]? = _ from zz) (fun e => hgM e.symm)
    obtain ⟨_, _, r2, _, _, _⟩ := cells3 zz5
    have CH5 := Lib.hid (CW0.trans ((Chg.of_below (D := fun g => g = M) (drew_bel W)).trans t5 (fun g e => .inl e)) (fun g e => .inl e) : Chg (fun g => g = M) w w5)
    have P5 := Lib.hid p5
    clear p5 t5 zz zz5 PW0 CW0 hg HP
    go_region_law (fail)
    all_goals
      go_wp2
      exact bodyPost_ret (v := .tuple #[.bool e', .int .i64 0]) (by simp [results, Try.results13, go_sem]) rfl ⟨rfl, P5.out, CH5.out⟩
  · have n0 := E1.out rfl
    go_enter Try.func13, Try.ntmps13
    go_wp2_with (first
      | (go_at_call 30; ((with_reducible refine F.out.mono ?_); rintro r w1 ⟨rfl, b1⟩; have B1g := Lib.hid b1.size; have B1 := Lib.hid (bel_alloc b1 (.cells #[.string f, .string t, .bool true] 73)); have Z1 := Lib.hid (heap_alloc_new w1 (.cells #[.string f, .string t, .bool true] 73)); clear b1))
      | (go_at_call 31; ((with_reducible refine (RI.out _ (rdt_later HA.out B1.out)).mono ?_); rintro r w2 ⟨rfl, b2⟩; have B2 := Lib.hid (bel_trans B1.out b2); have Z2 := Lib.hid (keep_bel b2 Z1.out); clear b2))
      | (go_at_call 32; ((with_reducible refine (CO.out _ _ (rdt_later HA.out B2.out) Z2.out).mono ?_); rintro r w3 ⟨rfl, b3⟩; have B3 := Lib.hid (bel_trans B2.out b3); have Z3 := Lib.hid (keep_bel b3 Z2.out); obtain ⟨k0, k1, k2, _, _, _⟩ := cells3 Z3.out; clear b3))
      | (go_at_call 35; ((with_reducible refine (HBH.out _ (rdt_later HA.out B3.out)).mono ?_); rintro r w4 ⟨rfl, b4⟩; have B4 := Lib.hid (bel_trans B3.out b4); have Z4 := Lib.hid (keep_bel b4 Z3.out); obtain ⟨l0, l1, l2, y0, y1, y2⟩ := cells3 Z4.out; clear b4))
      | fail)
    obtain ⟨zz, ch⟩ := box3_set Z4.out (.string a') (.string b') (.bool e')
    have HLT := HP.out.lt
    have CW0 := (Chg.of_below (D := fun g => g = M) B4.out).trans ch (fun g e => .inr (by have := B1g.out; omega))
    have PW0 := (HP.out.later B4.out).keep ch (fun e => by have := B1g.out; omega) (fun e => by have := B1g.out; omega)
    obtain ⟨g, hg⟩ : ∃ g, g = w1.heap.size := ⟨_, rfl⟩
    rw [← hg] at zz PW0 CW0 ⊢
    obtain ⟨W, hW⟩ : ∃ W, W = (((w4.setCell ⟨g, 0, none⟩ (.string a')).setCell ⟨g, 1, none⟩ (.string b')).setCell ⟨g, 2, none⟩ (.bool e')) := ⟨_, rfl⟩
    rw [← hW] at zz PW0 CW0 ⊢
    clear Z1 Z2 Z3 Z4 B1 B2 B3 B4 ch k0 k1 k2 l0 l1 l2 y0 y1 y2 hW F RI CO HBH
    obtain ⟨q0, q1, q2, _, _, _⟩ := cells3 zz
    have c0 := PW0.c0
    have hgM : M ≠ g := by have := B1g.out; omega
    obtain ⟨w5, hrun, p5, t5⟩ := PW0.drew.store x hx a' b' e' hm
    have zz5 := keep_chg (w' := w5) t5 (show W.drew.heap[g]? = _ from zz) (fun e => hgM e.symm)
    obtain ⟨_, _, r2, _, _, _⟩ := cells3 zz5
    have CH5 := Lib.hid (CW0.trans ((Chg.of_below (D := fun g => g = M) (drew_bel W)).trans t5 (fun g e => .inl e)) (fun g e => .inl e) : Chg (fun g => g = M) w w5)
    have P5 := Lib.hid p5
    clear p5 t5 zz zz5 PW0 CW0 hg HP
    go_region_law (fail)
    all_goals
      go_wp2
      exact bodyPost_ret (v := .tuple #[.bool e', .int .i64 0]) (by simp [results, Try.results13, go_sem]) rfl ⟨rfl, P5.out, CH5.out⟩
end Go.Proofs.Ytdbcaiggliiacaa
