/- The law CursorRises. -/
import Derived.Test.YtdbcaiggliiacaaD1
import Derived.Test.YtdbcaiggliiacaaM1
namespace Go.Proofs.Ytdbcaiggliiacaa
set_option linter.unusedSimpArgs false
open Go.RowKit Go.Maps
set_option linter.unusedVariables false
/-- Between rounds: what was told lies in a row of its own, and the cursor has still to tell the rest. -/
structure RInv (w : World) (N M base : Nat) (a b : ByteArray) (k : Nat) (A : Option Addr) (c : Nat) (xs : List TT) (d : Cur) (m : Nat) (wr : World) : Prop where
  fm : m ≤ k + 1
  flen : xs.length ≤ 20 * k
  fpt : PT wr N M m 1 1 (S1 d)
  fti : TI a b d xs
  frow : Row wr base A xs c
  fbel : Below w.heap.size w wr
  fbase : base ≤ wr.heap.size
  fbox : wr.heap[w.heap.size]? = some (.cells #[.string a, .string b] 29 (0, 0))
  fnlo : w.heap.size < N
  fmlo : w.heap.size < M
  fhi : N < base ∧ M < base
theorem grown_of_chg {w w' : World} {M : Nat} (h : Chg (fun g => g = M) w w') : w.grownBy w' (some M) :=
  ⟨h.os, h.tape, h.output, h.size, fun i hi hn => h.block i hi (fun e => hn (by rw [e]))⟩
theorem chg_of_grown {w w' : World} {row : Option Nat} (h : w.grownBy w' row) : Chg (fun g => row = some g) w w' :=
  ⟨h.os, h.tape, h.output, h.size, fun i hi hn => h.block i hi (fun e => hn e.symm)⟩
theorem Row.chgM {w w' : World} {base M : Nat} {A : Option Addr} {l : List TT} {c : Nat} (h : Row w base A l c) (hc : Chg (fun g => g = M) w w') (hM : M < base) : Row w' base A l c := by
  refine h.kept (grown_of_chg hc) ?_
  cases e : fpr A c with
  | none => exact .inl rfl
  | some g => exact .inr (fun q => by have := h.fp_lt e; cases q; omega)
theorem RInv.step {w : World} {N M base : Nat} {a b : ByteArray} {k : Nat} {A : Option Addr} {c : Nat} {xs : List TT} {d : Cur} {m : Nat} {wr : World} (h : RInv w N M base a b k A c xs d m wr) {W : World} (hb : Below wr.heap.size wr W) : RInv w N M base a b (k + 1) A c xs d m W :=
  ⟨by have := h.fm; omega, by have := h.flen; omega, h.fpt.later hb, h.fti, h.frow.later hb, bel_trans h.fbel hb, Nat.le_trans h.fbase hb.size, keep_bel hb h.fbox, h.fnlo, h.fmlo, h.fhi⟩
theorem RInv.later {w : World} {N M base : Nat} {a b : ByteArray} {k : Nat} {A : Option Addr} {c : Nat} {xs : List TT} {d : Cur} {m : Nat} {wr : World} (h : RInv w N M base a b k A c xs d m wr) {W : World} (hb : Below wr.heap.size wr W) : RInv w N M base a b k A c xs d m W :=
  ⟨h.fm, h.flen, h.fpt.later hb, h.fti, h.frow.later hb, bel_trans h.fbel hb, Nat.le_trans h.fbase hb.size, keep_bel hb h.fbox, h.fnlo, h.fmlo, h.fhi⟩
/-- A chunk was refused. -/
theorem RInv.no {w : World} {N M base : Nat} {a b : ByteArray} {k : Nat} {A : Option Addr} {c : Nat} {xs : List TT} {d : Cur} {m : Nat} {wr : World} (h : RInv w N M base a b k A c xs d m wr) {W : World} {m' : Nat} (hp : PT W N M m' 1 1 (S1 d)) (hm : m' ≤ m + 1) (hc : Chg (fun g => g = M) wr W) : RInv w N M base a b (k + 1) A c xs d m' W :=
  ⟨by have := h.fm; omega, by have := h.flen; omega, hp, h.fti, h.frow.chgM hc h.fhi.2, h.fbel.trans (hc.below (fun g e => by have := h.fmlo; omega) h.fbel.size), Nat.le_trans h.fbase hc.size, keep_chg hc h.fbox (fun e => by have := h.fmlo; omega), h.fnlo, h.fmlo, h.fhi⟩
/-- A chunk was taken, and is put behind what was told. -/
theorem RInv.yes {w : World} {N M base : Nat} {a b : ByteArray} {k : Nat} {A : Option Addr} {c : Nat} {xs : List TT} {d : Cur} {m : Nat} {wr : World} (h : RInv w N M base a b k A c xs d m wr) {W : World} {m' : Nat} {d' : Cur} (hp : PT W N M m' 1 1 (S1 d')) (hm : m' ≤ m + 1) (hc : Chg (fun g => g = M) wr W)
    {l : List TT} {most : Int} (hk : Tk (some d) l most (.ok d')) (hl : l.length ≤ 20) {W2 : World} {A' : Option Addr} {c' : Nat} (hr : Row W2 base A' (xs ++ l) c') (hg : W.grownBy W2 (fpr A c)) : RInv w N M base a b (k + 1) A' c' (xs ++ l) d' m' W2 := by
  have hrow := h.frow.chgM hc h.fhi.2
  have hc2 := chg_of_grown hg
  have hlo : ∀ g, fpr A c = some g → base ≤ g := fun g e => (hrow.fp_lt e).1
  have hhi := h.fhi
  refine ⟨by have := h.fm; omega, by have := h.flen; rw [List.length_append]; omega, hp.keep hc2 (fun e => by have := hlo _ e; omega) (fun e => by have := hlo _ e; omega), h.fti.tk hk, hr, ?_, ?_, ?_, h.fnlo, h.fmlo, h.fhi⟩
  · refine (h.fbel.trans (hc.below (fun g e => by have := h.fmlo; omega) h.fbel.size)).trans (hc2.below (fun g e => ?_) ?_)
    · have := hlo _ e; have := h.fnlo; omega
    · exact Nat.le_trans h.fbel.size hc.size
  · exact Nat.le_trans h.fbase (Nat.le_trans hc.size hc2.size)
  · exact keep_chg hc2 (keep_chg hc h.fbox (fun e => by have := h.fmlo; omega)) (fun e => by have := hlo _ e; have := h.fnlo; omega)
theorem cells2 {W : World} {g : Nat} {u v : Value} {t : TypeId} (z : W.heap[g]? = some (.cells #[u, v] t (0, 0))) : W.cell? ⟨g, 0, none⟩ = some u ∧ W.cell? ⟨g, 1, none⟩ = some v := by
  simp [World.cell?, z]
abbrev BX (w W : World) (a b : ByteArray) : Prop := W.heap[w.heap.size]? = some (.cells #[.string a, .string b] 29 (0, 0))
set_option maxRecDepth 10000 in
set_option maxHeartbeats 4000000 in
theorem rises_no (a b : ByteArray) (A : Option Addr) (n c : Nat) (w : World) (hr : sb a b = false) :
    Calls Try.prog 4 #[.agg #[.string a, .string b], .slice A n c] w fun e w' => e = .returned (.bool true) ∧ Below w.heap.size w w' := by
  have HR := Lib.hid hr
  have HA := Lib.hid (alb w (.cells #[.string a, .string b] 29))
  have H0 : Hid (BX w (w.alloc (.cells #[.string a, .string b] 29)) a b) := Lib.hid (heap_alloc_new w _)
  clear hr
  go_enter Try.func4, Try.ntmps4
  go_wp2_with (first
    | (go_at_call 7; ((with_reducible refine (new_any _).mono ?_); rintro e w1 ⟨N, M, rfl, p1, hN, hM, b1⟩; have P1 := Lib.hid p1; have B1 := Lib.hid (bel_trans HA.out b1); have H1 : Hid (BX w w1 a b) := Lib.hid (keep_bel b1 H0.out); obtain ⟨x1, x2⟩ := cells2 H1.out; clear p1 hN hM b1))
    | (go_at_call 11; ((with_reducible refine (open_no P1.out _ _ HR.out).mono ?_); rintro e w2 ⟨rfl, b2⟩; have B2 := Lib.hid (bel_trans B1.out b2); have H2 : Hid (BX w w2 a b) := Lib.hid (keep_bel b2 H1.out); obtain ⟨y1, y2⟩ := cells2 H2.out; clear b2))
    | (go_at_call 10; ((with_reducible refine (live_any _).mono ?_); rintro e w3 ⟨rfl, b3⟩; have B3 := Lib.hid (bel_trans B2.out b3); have H3 : Hid (BX w w3 a b) := Lib.hid (keep_bel b3 H2.out); obtain ⟨z1, z2⟩ := cells2 H3.out; clear b3))
    | (go_at_call 12; ((with_reducible refine (rright_any _ _ _).mono ?_); rintro e w4 ⟨rfl, b4⟩; have B4 := Lib.hid (bel_trans B3.out b4); clear b4))
    | fail)
  go_ret
  exact ⟨by rw [HR.out]; rfl, B4.out⟩
theorem Deeds.came {w : World} {A : Option Addr} {n : Nat} {f : Nat → DD} (h : Deeds w A n f) {i : Nat} (hi : i < n) : Came w (f i).B (f i).len (f i).cap (f i).l := by
  obtain ⟨_, _, _, _, _, _, _, _, _, _, _, q⟩ := h.at_ (Below.refl _ _) hi
  exact q
theorem tk_err {c : Cur} {l : List TT} {most z : Int} (h : Tk (some c) l most (.error z)) : z ≠ 0 := by
  cases h <;> omega
set_option maxRecDepth 10000 in
set_option maxHeartbeats 4000000 in
theorem rises_yes (a b : ByteArray) (A : Option Addr) (n c : Nat) (f : Nat → DD) (w : World) (hD : Deeds w A n f) (hr : sb a b = true) :
    Calls Try.prog 4 #[.agg #[.string a, .string b], .slice A n c] w fun e w' => e = .returned (.bool true) ∧ Below w.heap.size w w' := by
  have HD := Lib.hid hD
  have HR := Lib.hid hr
  have HA := Lib.hid (alb w (.cells #[.string a, .string b] 29))
  have H0 : Hid (BX w (w.alloc (.cells #[.string a, .string b] 29)) a b) := Lib.hid (heap_alloc_new w _)
  clear hr hD
  go_enter Try.func4, Try.ntmps4
  go_wp2_with (first
    | (go_at_call 7; ((with_reducible refine (new_any _).mono ?_); rintro e w1 ⟨N, M, rfl, p1, hN, hM, b1⟩; have P1 := Lib.hid p1; have GN := Lib.hid hN; have GM := Lib.hid hM; have B1 := Lib.hid (bel_trans HA.out b1); have H1 : Hid (BX w w1 a b) := Lib.hid (keep_bel b1 H0.out); obtain ⟨x1, x2⟩ := cells2 H1.out; clear p1 hN hM b1))
    | (go_at_call 11; ((with_reducible refine (P1.out.open1 _ _ HR.out).mono ?_); rintro e w2 ⟨rfl, p2, c2⟩; have P2 := Lib.hid p2; have B2 := Lib.hid (B1.out.trans (c2.below (fun g e => by have := GN.out; have := GM.out; simp at *; omega) B1.out.size)); have H2 : Hid (BX w w2 a b) := Lib.hid (keep_chg c2 H1.out (fun e => by have := GN.out; have := GM.out; simp at *; omega)); clear c2 p2))
    | fail)
  obtain ⟨base, hbase⟩ : ∃ base, base = w2.heap.size := ⟨_, rfl⟩
  have R0 : Hid (RInv w N M base a b 0 none 0 [] (a, b, false) 1 w2) := Lib.hid ⟨by omega, by simp, P2.out, TI.start a b, .inl ⟨rfl, rfl⟩, B2.out, by omega, H2.out, by have := GN.out; simp at this; omega, by have := GM.out; simp at this; omega, by have := P2.out.lt; omega⟩
  clear P1 B1 H1 x1 x2 H0 P2 B2 H2 GN GM HA hbase
  go_loopw [9, 8] (fun iv tv wr => ∃ (k : Nat) (A' : Option Addr) (c' m L : Nat) (xs : List TT) (d : Cur), iv = .int .i64 k ∧ tv = .slice A' L c' ∧ xs.length = L ∧ k ≤ 60 ∧ RInv w N M base a b k A' c' xs d m wr) (fun i _ _ => 60 - (intOf i).toNat)
  case atStart => exact ⟨0, none, 0, 1, 0, [], (a, b, false), rfl, rfl, rfl, by omega, R0.out⟩
  case round =>
    obtain ⟨k, A', c', m, L, xs, d, rfl, rfl, hL, hk, hR⟩ := hrel
    have RI := Lib.hid hR
    have HL := Lib.hid hL
    clear hR hL
    by_cases h8 : k < n ∧ k < 60
    · obtain ⟨h1, h2⟩ := h8
      have i0 : (0 : Int) ≤ (k : Int) := by omega
      have i1 : (k : Int) < (n : Int) := by omega
      have i2 : (k : Int) < 60 := by omega
      obtain ⟨bb, off, rfl, hlt, d0, d1, d2, d3, d4, d5, hwf, hcm⟩ := HD.out.at_ RI.out.fbel h1
      have hcw := HD.out.came h1
      generalize f k = t at *
      obtain ⟨td, tn, tm, tf, tt, tB, tl, tc, tx⟩ := t
      simp only at d0 d1 d2 d3 d4 d5 hcm hcw
      have CM := Lib.hid hcm
      have CW := Lib.hid hcw
      clear hwf hcm hcw
      by_cases h20 : tl ≤ 20
      · have j1 : ¬ (20 : Int) < (tl : Int) := by omega
        obtain ⟨r, hr⟩ := tk_total (some d) tx tm
        have KK := Lib.hid hr
        have CT : Hid (∀ W, Below wr.heap.size wr W → Calls Try.prog 13 #[.pointer (some ⟨N, 0, none⟩), .int .i64 1, .slice tB tl tc, .int .i64 tm] W fun e w' => ∃ (b' : Bool) (x : Int) (d' : Cur) (m' : Nat), e = .returned (.tuple #[.bool b', .int .i64 x]) ∧ m' ≤ m + 1 ∧ PT w' N M m' 1 1 (S1 d') ∧ Chg (fun g => g = M) W w' ∧ ((r = .error x ∧ d' = d ∧ b' = false) ∨ (r = .ok d' ∧ x = 0 ∧ b' = d'.2.2))) := Lib.hid (fun W hW => (RI.out.fpt.later hW).took1 (by have := RI.out.fm; omega) tB tl tc tx tm CM.out.2.2.2.1 (by omega) (rdt_later CM.out.2.2.2.2.1 hW) (lastE_size CM.out.2.2.2.2.2) r KK.out)
        clear hr
        have B0 := Lib.hid (alb wr (.cells #[.int .i64 td, .int .i64 tn, .int .i64 tm, .string tf, .string tt, .slice tB tl tc] 32))
        have Z0 := Lib.hid (heap_alloc_new wr (.cells #[.int .i64 td, .int .i64 tn, .int .i64 tm, .string tf, .string tt, .slice tB tl tc] 32))
        cases r with
        | error z =>
          have CE : Hid (∀ W, Below wr.heap.size wr W → Calls Try.prog 13 #[.pointer (some ⟨N, 0, none⟩), .int .i64 1, .slice tB tl tc, .int .i64 tm] W fun e w' => e = .returned (.tuple #[.bool false, .int .i64 z]) ∧ ∃ m', m' ≤ m + 1 ∧ PT w' N M m' 1 1 (S1 d) ∧ Chg (fun g => g = M) W w') := Lib.hid (fun W hW => (CT.out W hW).mono (fun e w' h => by
            obtain ⟨b', x, d', m', rfl, h1, h2, h3, ⟨h4, rfl, rfl⟩ | ⟨h4, _, _⟩⟩ := h
            · cases h4; exact ⟨rfl, m', h1, h2, h3⟩
            · cases h4))
          have hz : z ≠ 0 := tk_err KK.out
          clear CT
          go_wp2_with (first
            | (go_at_call 13; ((with_reducible refine (CE.out _ B0.out).mono ?_); rintro e w3 ⟨rfl, m3, hm3, p3, c3⟩; have P3 := Lib.hid p3; have C3 := Lib.hid c3; clear p3 c3))
            | fail)
          exact ⟨⟨k + 1, A', c', m3, L, xs, d, by simp, rfl, HL.out, by omega, (RI.out.later B0.out).no P3.out hm3 C3.out⟩, by simp [intOf]; omega⟩
        | ok d' =>
          have CE : Hid (∀ W, Below wr.heap.size wr W → Calls Try.prog 13 #[.pointer (some ⟨N, 0, none⟩), .int .i64 1, .slice tB tl tc, .int .i64 tm] W fun e w' => e = .returned (.tuple #[.bool d'.2.2, .int .i64 0]) ∧ ∃ m', m' ≤ m + 1 ∧ PT w' N M m' 1 1 (S1 d') ∧ Chg (fun g => g = M) W w') := Lib.hid (fun W hW => (CT.out W hW).mono (fun e w' h => by
            obtain ⟨b', x, d', m', rfl, h1, h2, h3, ⟨h4, _, _⟩ | ⟨h4, rfl, rfl⟩⟩ := h
            · cases h4
            · cases h4; exact ⟨rfl, m', h1, h2, h3⟩))
          clear CT
          go_wp2_with (first
            | (go_at_call 13; ((with_reducible refine (CE.out _ B0.out).mono ?_); rintro e w3 ⟨rfl, m3, hm3, p3, c3⟩; have P3 := Lib.hid p3; have C3 := Lib.hid c3; have zz := keep_chg c3 Z0.out (fun (e : wr.heap.size = M) => by have := RI.out.fhi; have := RI.out.fbase; omega); have RW := Lib.hid ((RI.out.later B0.out).frow.chgM c3 RI.out.fhi.2); have BS := Lib.hid (Nat.le_trans (RI.out.later B0.out).fbase c3.size); have RX := Lib.hid ((CW.out.later ((RI.out.later B0.out).fbel.trans (c3.below (fun g (e : g = M) => by have := RI.out.fmlo; omega) (RI.out.later B0.out).fbel.size))).2.2.2.2.1); have z5 : w3.cell? ⟨wr.heap.size, 5, none⟩ = some (.slice tB tl tc) := (by simp [World.cell?, zz]); clear p3 c3 zz))
            | (at_builtin; refine wpList_put_row _ rfl (.tmp 62) (.tmp 64) rfl (base := base) A' L c' xs tB tl tc tx rfl rfl RW.out HL.out (by have := RI.out.flen; have := HL.out; omega) BS.out CM.out.2.2.2.1 (by omega) RX.out ?_; intro A2 c2 w4 r1 r2 r3; have T1 := Lib.hid r1; have T2 := Lib.hid r2; clear r1 r2 r3)
            | fail)
          exact ⟨⟨k + 1, A2, c2, m3, L + tl, xs ++ tx, d', by simp, rfl, by rw [List.length_append, HL.out, CM.out.2.2.2.1], by omega, (RI.out.later B0.out).yes P3.out hm3 C3.out KK.out (by have := CM.out.2.2.2.1; omega) T1.out T2.out⟩, by simp [intOf]; omega⟩
      · have j1 : (20 : Int) < (tl : Int) := by omega
        go_wp2
        exact ⟨⟨k + 1, A', c', m, L, xs, d, by simp, rfl, HL.out, by omega, RI.out.step (by go_grown)⟩, by simp [intOf]; omega⟩
    · have j : ¬ ((k : Int) < (n : Int) ∧ (k : Int) < 60) := by omega
      have j' : ¬ (k : Int) < (n : Int) ∨ ((k : Int) < (n : Int) ∧ ¬ (k : Int) < 60) := by omega
      have hL := HL.out
      have hL2 : L ≤ 1200 := by have := RI.out.flen; omega
      have RD := Lib.hid RI.out.frow.rd
      have BR := Lib.hid RI.out.fbel
      have TIx := Lib.hid RI.out.fti
      have XB : Hid (BX w wr a b) := Lib.hid RI.out.fbox
      clear RI R0 j
      rcases j' with j' | ⟨j', j''⟩
      all_goals
        go_wp2_with fail
        go_loopw [13] (fun jv w2 => ∃ q : Nat, q ≤ L ∧ jv = .int .i64 q ∧ Below wr.heap.size wr w2) (fun j _ => L - (intOf j).toNat)
        case atStart => exact ⟨0, by omega, rfl, Below.refl _ _⟩
        case round =>
          obtain ⟨q, hq, rfl, hb2⟩ := hrel
          have B2 := Lib.hid hb2
          clear hb2
          by_cases h9 : q < L
          · have q1 : (q : Int) < (L : Int) := by omega
            have q0 : (0 : Int) ≤ (q : Int) := by omega
            obtain ⟨x, hx⟩ : ∃ x, xs[q]? = some x := ⟨_, List.getElem?_eq_getElem (by rw [HL.out]; omega)⟩
            obtain ⟨b9, off9, rfl, hlt9, g0, g1⟩ := rdt_get RD.out hx
            have HH := TIx.out.2.1 x (List.mem_of_getElem? hx)
            obtain ⟨x0, x1⟩ := x
            simp only at g0 HH
            have k0 := bel_later B2.out g0
            obtain ⟨k1, k2⟩ := cells2 (keep_bel B2.out XB.out)
            have CH : Hid (∀ W, Calls Try.prog 14 #[.agg #[.string a, .string b], .string x0] W fun e w' => e = .returned (.bool true) ∧ Below W.heap.size W w') := Lib.hid (fun W => by
              have := rholds_any a b x0 W
              rw [HH] at this; exact this)
            clear g0 g1 hx HH hlt9 hL
            go_wp2_with fail
            go_region_law (first
              | (go_simp; go_at_call 14; ((with_reducible refine (CH.out _).mono ?_); rintro e w5 ⟨rfl, b5⟩; have B5 := Lib.hid (bel_trans B2.out (bel_dr b5)); clear b5))
              | fail)
            all_goals
              go_wp2
              exact ⟨⟨q + 1, by omega, by simp, B5.out⟩, by simp [intOf]; omega⟩
          · have q1 : ¬ (q : Int) < (L : Int) := by omega
            have B3 := Lib.hid (bel_trans BR.out B2.out)
            have RR := Lib.hid (rdt_later RD.out B2.out)
            have PP := pw_ris TIx.out.1
            go_wp2_with (first
              | (go_at_call 10; ((with_reducible refine (live_any _).mono ?_); rintro e w5 ⟨rfl, b5⟩; have B5 := Lib.hid (bel_trans B3.out b5); have R5 := Lib.hid (rdt_later RR.out b5); clear b5))
              | (go_at_call 15; ((with_reducible refine (refRises_any _ _ _ xs _ HL.out (by omega) R5.out).mono ?_); rintro e w6 ⟨⟨r6, rfl, hr6⟩, b6⟩; have B6 := Lib.hid (bel_trans B5.out b6); obtain rfl := hr6.2 PP; clear b6))
              | fail)
            go_ret
            exact ⟨rfl, B6.out⟩
end Go.Proofs.Ytdbcaiggliiacaa
