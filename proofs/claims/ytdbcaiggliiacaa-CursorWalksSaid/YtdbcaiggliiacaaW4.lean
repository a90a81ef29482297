/- The law CursorWalks. -/
import Derived.Test.YtdbcaiggliiacaaE2
import Derived.Test.YtdbcaiggliiacaaW3
namespace Go.Proofs.Ytdbcaiggliiacaa
set_option linter.unusedSimpArgs false
open Go.RowKit Go.Maps
set_option linter.unusedVariables false
/-- Between rounds: what was told lies in a row of its own; there is one cursor. -/
structure WV (w : World) (N M base : Nat) (a b : ByteArray) (i : Nat) (A : Option Addr) (c : Nat) (told : List TT) (d : Cur) (m : Nat) (wr : World) : Prop where
  fm : m ≤ i + 1
  fpt : PT wr N M m 1 1 (S1 d)
  frow : Row wr base A told c
  fbel : Below w.heap.size w wr
  fbase : base ≤ wr.heap.size
  fbox : wr.heap[w.heap.size]? = some (.cells #[.string a, .string b] 29 (0, 0))
  fnlo : w.heap.size < N
  fmlo : w.heap.size < M
  fhi : N < base ∧ M < base
theorem WV.later {w : World} {N M base : Nat} {a b : ByteArray} {i : Nat} {A : Option Addr} {c : Nat} {told : List TT} {d : Cur} {m : Nat} {wr : World} (h : WV w N M base a b i A c told d m wr) {W : World} (hb : Below wr.heap.size wr W) : WV w N M base a b i A c told d m W :=
  ⟨h.fm, h.fpt.later hb, h.frow.later hb, bel_trans h.fbel hb, Nat.le_trans h.fbase hb.size, keep_bel hb h.fbox, h.fnlo, h.fmlo, h.fhi⟩
/-- A chunk was taken. -/
theorem WV.took {w : World} {N M base : Nat} {a b : ByteArray} {i : Nat} {A : Option Addr} {c : Nat} {told : List TT} {d : Cur} {m : Nat} {wr : World} (h : WV w N M base a b i A c told d m wr) {W : World} {m' : Nat} {d' : Cur} (hp : PT W N M m' 1 1 (S1 d')) (hm : m' ≤ m + 1) (hc : Chg (fun g => g = M) wr W) : WV w N M base a b (i + 1) A c told d' m' W :=
  ⟨by have := h.fm; omega, hp, h.frow.chgM hc h.fhi.2, h.fbel.trans (hc.below (fun g e => by have := h.fmlo; omega) h.fbel.size), Nat.le_trans h.fbase hc.size, keep_chg hc h.fbox (fun e => by have := h.fmlo; omega), h.fnlo, h.fmlo, h.fhi⟩
/-- It is put behind what was told. -/
theorem WV.put {w : World} {N M base : Nat} {a b : ByteArray} {i : Nat} {A : Option Addr} {c : Nat} {told : List TT} {d : Cur} {m : Nat} {wr : World} (h : WV w N M base a b i A c told d m wr) {W : World} {A' : Option Addr} {c' : Nat} {l : List TT} (hr : Row W base A' l c') (hg : wr.grownBy W (fpr A c)) : WV w N M base a b i A' c' l d m W := by
  have hc2 := chg_of_grown hg
  have hlo : ∀ g, fpr A c = some g → base ≤ g := fun g e => (h.frow.fp_lt e).1
  have hhi := h.fhi
  refine ⟨h.fm, h.fpt.keep hc2 (fun e => by have := hlo _ e; omega) (fun e => by have := hlo _ e; omega), hr, h.fbel.trans (hc2.below (fun g e => ?_) h.fbel.size), Nat.le_trans h.fbase hc2.size, keep_chg hc2 h.fbox (fun e => by have := hlo _ e; have := h.fnlo; omega), h.fnlo, h.fmlo, h.fhi⟩
  have := hlo _ e; have := h.fnlo; omega
set_option maxRecDepth 10000 in
set_option maxHeartbeats 8000000 in
theorem walks_no (A : Option Addr) (len cap : Nat) (l : List TT) (a b : ByteArray) (mo : Int) (w : World) (hC : Came w A len cap l) (hr : sb a b = false) :
    Calls Try.prog 5 #[.slice A len cap, .agg #[.string a, .string b], .int .u8 mo] w fun e w' => e = .returned (.bool true) ∧ Below w.heap.size w w' := by
  have HR := Lib.hid hr
  have HA := Lib.hid (alb w (.cells #[.string a, .string b] 29))
  have H0 : Hid (BX w (w.alloc (.cells #[.string a, .string b] 29)) a b) := Lib.hid (heap_alloc_new w _)
  have hcap := hC.2.1
  have hmax := hC.2.2.1
  clear hr hC
  unfold maxLen at hmax
  have hcap3 : (len < 60 ∧ (len : Int) < 60 ∧ (len : Int) ≤ (cap : Int)) ∨ (len = 60 ∧ (60 : Int) ≤ (cap : Int)) ∨ ((60 : Int) < (len : Int) ∧ (60 : Int) ≤ (cap : Int)) := by omega
  rcases hcap3 with ⟨_, f1, f2⟩ | ⟨rfl, f2⟩ | ⟨f1, f2⟩
  all_goals
    go_enter Try.func5, Try.ntmps5
    go_wp2_with (first
      | (go_at_call 7; ((with_reducible refine (new_any _).mono ?_); rintro e w1 ⟨N, M, rfl, p1, hN, hM, b1⟩; have P1 := Lib.hid p1; have B1 := Lib.hid (bel_trans HA.out b1); have H1 : Hid (BX w w1 a b) := Lib.hid (keep_bel b1 H0.out); obtain ⟨x1, x2⟩ := cells2 H1.out; clear p1 hN hM b1))
      | (go_at_call 11; ((with_reducible refine (open_no P1.out _ _ HR.out).mono ?_); rintro e w2 ⟨rfl, b2⟩; have B2 := Lib.hid (bel_trans B1.out b2); have H2 : Hid (BX w w2 a b) := Lib.hid (keep_bel b2 H1.out); obtain ⟨y1, y2⟩ := cells2 H2.out; clear b2))
      | (go_at_call 10; ((with_reducible refine (live_any _).mono ?_); rintro e w3 ⟨rfl, b3⟩; have B3 := Lib.hid (bel_trans B2.out b3); have H3 : Hid (BX w w3 a b) := Lib.hid (keep_bel b3 H2.out); obtain ⟨z1, z2⟩ := cells2 H3.out; clear b3))
      | (go_at_call 12; ((with_reducible refine (rright_any _ _ _).mono ?_); rintro e w4 ⟨rfl, b4⟩; have B4 := Lib.hid (bel_trans B3.out b4); clear b4))
      | fail)
    go_ret
    exact ⟨by rw [HR.out]; rfl, B4.out⟩
theorem rdt_chg {D : Nat → Prop} {w w' : World} {a : Addr} {l : List TT} (h : RdT w (some a) l) (hc : Chg D w w') (hd : 0 < l.length → ¬ D a.block) : RdT w' (some a) l := by
  by_cases h0 : 0 < l.length
  · rcases h with h | ⟨b, off, e, hlt, hv⟩
    · exact .inl h
    · cases e
      exact .inr ⟨b, off, rfl, Nat.lt_of_lt_of_le hlt hc.size, fun j u hj => (World.cell?_of_block (hc.block b hlt (hd h0))).trans (hv j u hj)⟩
  · obtain rfl : l = [] := List.eq_nil_of_length_eq_zero (by omega)
    exact .inl rfl
theorem WI.lim {a b : ByteArray} {xs : List TT} {i : Nat} {d : Cur} {told : List TT} (h : WI a b xs i d told) (hx : xs.length ≤ 60) : i ≤ 61 ∧ told.length ≤ 60 := by
  have hf : (Fl a b xs).length ≤ 60 := Nat.le_trans (List.length_filter_le _ _) hx
  rcases h with ⟨_, _, _, j, rfl, _, h3⟩ | ⟨_, rfl, h⟩
  · rw [List.length_take] at h3 ⊢; omega
  · omega
set_option maxRecDepth 10000 in
set_option maxHeartbeats 16000000 in
theorem walks_yes (A : Option Addr) (len cap : Nat) (l : List TT) (a b : ByteArray) (mo : Int) (w : World) (hC : Came w A len cap l) (hr : sb a b = true) (hmo : 0 ≤ mo ∧ mo < 256) :
    Calls Try.prog 5 #[.slice A len cap, .agg #[.string a, .string b], .int .u8 mo] w fun e w' => e = .returned (.bool true) ∧ Below w.heap.size w w' := by
  obtain ⟨n, hn⟩ : ∃ n, n = min len 60 := ⟨_, rfl⟩
  obtain ⟨xs, hxs⟩ : ∃ xs, xs = l.take n := ⟨_, rfl⟩
  have hxl : xs.length = n := by rw [hxs, List.length_take, hC.2.2.2.1]; omega
  have HX : Hid (RdT w A xs) := Lib.hid (by rw [hxs]; exact rdt_take hC.2.2.2.2.1 n)
  have HSZ : Hid (∀ x ∈ xs, x.1.size ≤ reachBytes) := Lib.hid (by rw [hxs]; exact fun x hx => hC.2.2.2.2.2 x (List.mem_of_mem_take hx))
  have hn60 : n ≤ 60 := by omega
  have HL := Lib.hid hxl
  have hcap := hC.2.1
  have hmax := hC.2.2.1
  have HR := Lib.hid hr
  have HA := Lib.hid (alb w (.cells #[.string a, .string b] 29))
  have H0 : Hid (BX w (w.alloc (.cells #[.string a, .string b] 29)) a b) := Lib.hid (heap_alloc_new w _)
  unfold maxLen at hmax
  have hcap3 : (n = len ∧ (len : Int) < 60 ∧ (len : Int) ≤ (cap : Int)) ∨ (n = 60 ∧ len = 60 ∧ (60 : Int) ≤ (cap : Int)) ∨ (n = 60 ∧ (60 : Int) < (len : Int) ∧ (60 : Int) ≤ (cap : Int)) := by omega
  clear hr hC hn hxs hxl
  obtain ⟨rb, hrb⟩ : ∃ rb : Bool, (rb = true ↔ ris xs) := by
    by_cases h : ris xs
    · exact ⟨true, by simp [h]⟩
    · exact ⟨false, by simp [h]⟩
  have RS : Hid (∀ W, RdT W A xs → Calls Try.prog 15 #[.slice A n cap] W fun e w' => e = .returned (.bool rb) ∧ Below W.heap.size W w') := Lib.hid (fun W hW => (refRises_any A n cap xs W HL.out (by omega) hW).mono (fun e w' h => by
    obtain ⟨⟨q, rfl, hq⟩, h2⟩ := h
    refine ⟨?_, h2⟩
    have : q = rb := by rw [Bool.eq_iff_iff, hq, hrb]
    rw [this]))
  have HRB := Lib.hid hrb
  clear hrb
  rcases hcap3 with ⟨rfl, f1, f2⟩ | ⟨rfl, rfl, f2⟩ | ⟨rfl, f1, f2⟩
  all_goals
    cases rb with
    | false =>
      go_enter Try.func5, Try.ntmps5
      go_wp2_with (first
        | (go_at_call 7; ((with_reducible refine (new_any _).mono ?_); rintro e w1 ⟨N, M, rfl, p1, hN, hM, b1⟩; have P1 := Lib.hid p1; have GN := Lib.hid hN; have GM := Lib.hid hM; have B1 := Lib.hid (bel_trans HA.out b1); have H1 : Hid (BX w w1 a b) := Lib.hid (keep_bel b1 H0.out); obtain ⟨x1, x2⟩ := cells2 H1.out; clear p1 hN hM b1))
        | (go_at_call 11; ((with_reducible refine (P1.out.open1 _ _ HR.out).mono ?_); rintro e w2 ⟨rfl, p2, c2⟩; have B2 := Lib.hid (B1.out.trans (c2.below (fun g e => by have := GN.out; have := GM.out; simp at *; omega) B1.out.size)); clear c2 p2))
        | (go_at_call 15; ((with_reducible refine (RS.out _ (rdt_later HX.out B2.out)).mono ?_); rintro e w3 ⟨rfl, b3⟩; have B3 := Lib.hid (bel_trans B2.out b3); clear b3))
        | (go_at_call 10; ((with_reducible refine (live_any _).mono ?_); rintro e w4 ⟨rfl, b4⟩; have B4 := Lib.hid (bel_trans B3.out b4); clear b4))
        | fail)
      go_ret
      exact ⟨rfl, B4.out⟩
    | true =>
      have HP : Hid (PW xs) := Lib.hid (ris_pw (HRB.out.1 rfl))
      go_enter Try.func5, Try.ntmps5
      go_wp2_with (first
        | (go_at_call 7; ((with_reducible refine (new_any _).mono ?_); rintro e w1 ⟨N, M, rfl, p1, hN, hM, b1⟩; have P1 := Lib.hid p1; have GN := Lib.hid hN; have GM := Lib.hid hM; have B1 := Lib.hid (bel_trans HA.out b1); have H1 : Hid (BX w w1 a b) := Lib.hid (keep_bel b1 H0.out); obtain ⟨x1, x2⟩ := cells2 H1.out; clear p1 hN hM b1))
        | (go_at_call 11; ((with_reducible refine (P1.out.open1 _ _ HR.out).mono ?_); rintro e w2 ⟨rfl, p2, c2⟩; have P2 := Lib.hid p2; have B2 := Lib.hid (B1.out.trans (c2.below (fun g e => by have := GN.out; have := GM.out; simp at *; omega) B1.out.size)); have H2 : Hid (BX w w2 a b) := Lib.hid (keep_chg c2 H1.out (fun e => by have := GN.out; have := GM.out; simp at *; omega)); clear c2 p2))
        | (go_at_call 15; ((with_reducible refine (RS.out _ (rdt_later HX.out B2.out)).mono ?_); rintro e w3 ⟨rfl, b3⟩; have B3 := Lib.hid (bel_trans B2.out b3); have P3 := Lib.hid (P2.out.later b3); have H3 : Hid (BX w w3 a b) := Lib.hid (keep_bel b3 H2.out); clear b3))
        | fail)
      obtain ⟨K, hK, hK0, hK9⟩ : ∃ K : Nat, mo % 9 + 1 = (K : Int) ∧ 0 < K ∧ K ≤ 9 := ⟨(mo % 9 + 1).toNat, by omega, by omega, by omega⟩
      rw [hK]
      obtain ⟨base, hbase⟩ : ∃ base, base = w3.heap.size := ⟨_, rfl⟩
      have V0 : Hid (WV w N M base a b 0 none 0 [] (a, b, false) 1 w3) := Lib.hid ⟨by omega, P3.out, .inl ⟨rfl, rfl⟩, B3.out, by omega, H3.out, by have := GN.out; simp at this; omega, by have := GM.out; simp at this; omega, by have := P3.out.lt; omega⟩
      clear P1 B1 H1 x1 x2 H0 P2 B2 H2 GN GM HA hbase P3 B3 H3 RS hK
      go_loopw [11, 12] (fun tv iv wr => ∃ (i : Nat) (A' : Option Addr) (c' m L : Nat) (told : List TT) (d : Cur), iv = .int .i64 i ∧ tv = .slice A' L c' ∧ told.length = L ∧ WI a b xs i d told ∧ WV w N M base a b i A' c' told d m wr) (fun _ iv _ => 70 - (intOf iv).toNat)
      case atStart => exact ⟨0, none, 0, 1, 0, [], (a, b, false), rfl, rfl, rfl, WI.start HR.out xs, V0.out⟩
      case round =>
        obtain ⟨i, A', c', m, L, told, d, rfl, rfl, hL, hI, hV⟩ := hrel
        obtain ⟨hi61, hL60⟩ := hI.lim (by rw [HL.out]; omega)
        rw [hL] at hL60
        have VV := Lib.hid hV
        have HTL := Lib.hid hL
        have HI := Lib.hid hI
        clear hV hL hI V0
        have i70 : (i : Int) < 70 := by omega
        obtain ⟨f, t, e⟩ := d
        cases e with
        | true =>
          have hTF : told = Fl a b xs := by
            have := HI.out.resolve_left (fun q => by cases q.1)
            exact this.2.1
          have HTF := Lib.hid hTF
          have LF := Lib.hid (left_some VV.out.fpt 1 (by decide) f t true rfl)
          have RT := Lib.hid VV.out.frow.rd
          have BX0 : Hid (BX w wr a b) := Lib.hid VV.out.fbox
          have BR := Lib.hid VV.out.fbel
          clear hTF VV
          go_wp2_with (first
            | (go_at_call 16; ((with_reducible refine LF.out.mono ?_); rintro e w5 ⟨rfl, b5⟩; have B5 := Lib.hid (bel_alloc b5 (.cells #[.string f, .string t] 29)); clear b5))
            | (go_at_call 10; ((with_reducible refine (live_any _).mono ?_); rintro e w6 ⟨rfl, b6⟩; have B6 := Lib.hid (bel_trans B5.out b6); have X6 : Hid (BX w w6 a b) := Lib.hid (keep_bel B6.out BX0.out); obtain ⟨x1, x2⟩ := cells2 X6.out; clear b6))
            | (go_at_call 18; ((with_reducible refine (entries_any A _ cap xs a b _ HL.out (by omega) (rdt_later HX.out (bel_trans BR.out B6.out)) HP.out HR.out).mono ?_); rintro e w7 ⟨a7, N7, c7, rfl, r7, h7, h7b, h7c, b7, h7d⟩; have R7 : Hid (RdT w7 (some a7) (Fl a b xs)) := Lib.hid r7; have H7 := Lib.hid h7; have B7 := Lib.hid (bel_trans B6.out b7); clear r7 h7 h7b h7c b7 h7d))
            | (go_at_call 17; ((with_reducible refine (same_any A' (some a7) L N7 c' c7 told (Fl a b xs) _ HTL.out H7.out (by omega) (by have := H7.out; have := HTL.out; rw [HTF.out] at this; omega) (rdt_later RT.out B7.out) R7.out).mono ?_); rintro e w8 ⟨⟨r8, rfl, h8⟩, b8⟩; have B8 := Lib.hid (bel_trans B7.out b8); obtain rfl := h8.2 HTF.out; clear b8))
            | fail)
          go_ret
          exact ⟨rfl, bel_trans BR.out B8.out⟩
        | false =>
          obtain ⟨rfl, hsf, d', hk, hI'⟩ := HI.out.step HP.out hK0
          obtain ⟨lc, hlc⟩ : ∃ lc, lc = (Fl f t xs).take K := ⟨_, rfl⟩
          have hlsz : (lastE lc).size + 1 ≤ 9223372036854775807 := lastE_size (by rw [hlc]; exact fun x hx => HSZ.out x (List.mem_filter.1 (List.mem_of_mem_take hx)).1)
          have hll : lc.length ≤ 9 := by rw [hlc, List.length_take]; omega
          rw [← hlc] at hk hI'
          have SO : Hid (∀ W, RdT W A xs → Calls Try.prog 19 #[.slice none 0 0, .slice A _ cap, .agg #[.string f, .string t], .int .i64 K] W (NewE W lc)) := Lib.hid (fun W hW => by rw [hlc]; exact some_any A _ cap xs f t K W HL.out (by omega) hW HP.out hsf)
          have TK := Lib.hid hk
          have HI2 := Lib.hid hI'
          have HSZ2 := Lib.hid hlsz
          have LF := Lib.hid (left_some VV.out.fpt 1 (by decide) f t false rfl)
          clear hk hI' hlsz hlc hsf
          go_wp2_with (first
            | (go_at_call 16; ((with_reducible refine LF.out.mono ?_); rintro e w5 ⟨rfl, b5⟩; have B5 := Lib.hid (bel_alloc b5 (.cells #[.string f, .string t] 29)); clear b5))
            | (go_at_call 19; ((with_reducible refine (SO.out _ (rdt_later HX.out (bel_trans VV.out.fbel B5.out))).mono ?_); rintro e w6 ⟨a6, N6, c6, rfl, r6, h6, h6b, h6c, b6, h6d⟩; have R6 : Hid (RdT w6 (some a6) lc) := Lib.hid r6; have H6 := Lib.hid h6; have D6 := Lib.hid h6d; have B6 := Lib.hid (bel_trans B5.out b6); clear r6 h6 h6b h6c b6 h6d))
            | (go_at_call 13; ((with_reducible refine ((VV.out.fpt.later B6.out).took1 (by have := VV.out.fm; omega) (some a6) N6 c6 lc (K : Int) H6.out (by have := H6.out; omega) R6.out HSZ2.out _ TK.out).mono ?_); rintro e w7 ⟨b7, z7, d7, m7, rfl, hm7, p7, ch7, h7⟩; rcases h7 with ⟨h7, _, _⟩ | ⟨h7, rfl, rfl⟩; cases h7; cases h7; have V7 := Lib.hid ((VV.out.later B6.out).took p7 hm7 ch7); have R7 := Lib.hid (rdt_chg R6.out ch7 (fun h (e : a6.block = M) => by have := D6.out h; have := VV.out.fhi; have := (VV.out.later B5.out).fbase; omega)); clear p7 ch7))
            | (at_builtin; refine wpList_put_row _ rfl (.tmp 86) (.tmp 87) rfl (base := base) A' L c' told (some a6) N6 c6 lc rfl rfl V7.out.frow HTL.out (by omega) V7.out.fbase H6.out (by have := H6.out; omega) R7.out ?_; intro A8 c8 w8 r8 g8 o8; have V8 := Lib.hid (V7.out.put r8 g8); clear r8 g8 o8)
            | fail)
          exact ⟨⟨i + 1, A8, c8, m7, L + N6, told ++ lc, d', by simp, rfl, by rw [List.length_append, HTL.out, H6.out], HI2.out, V8.out⟩, by simp [intOf]; omega⟩
end Go.Proofs.Ytdbcaiggliiacaa
