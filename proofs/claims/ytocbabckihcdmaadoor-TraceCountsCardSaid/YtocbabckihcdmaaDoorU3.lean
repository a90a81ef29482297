/- How many moves did what, whose they are, at which node, and how many an operation took: the walk. -/
import Derived.Test.YtocbabckihcdmaaDoorU0
import Derived.Test.YtocbabckihcdmaaDoorU1
import Derived.Test.YtocbabckihcdmaaDoorU2
namespace Go.Proofs.YtocbabckihcdmaaDoor
set_option linter.unusedSimpArgs false
open Go.RowKit Go.Maps
set_option linter.unusedVariables false
def Sep (A1 : Option Addr) (c1 : Nat) (A2 : Option Addr) (c2 : Nat) : Prop := RE.fp A1 c1 = none ∨ RE.fp A2 c2 = none ∨ RE.fp A1 c1 ≠ RE.fp A2 c2
theorem Sep.symm {A1 A2 : Option Addr} {c1 c2 : Nat} (s : Sep A1 c1 A2 c2) : Sep A2 c2 A1 c1 := by
  rcases s with s | s | s
  · exact .inr (.inl s)
  · exact .inl s
  · exact .inr (.inr (Ne.symm s))
theorem Sep.ne {A1 A2 : Option Addr} {c1 c2 : Nat} (s : Sep A1 c1 A2 c2) : RE.fp A2 c2 = none ∨ RE.fp A2 c2 ≠ RE.fp A1 c1 := by
  by_cases h : RE.fp A2 c2 = none
  · exact .inl h
  · right
    rcases s with s | s | s
    · rw [s]; exact h
    · exact absurd s h
    · exact Ne.symm s
theorem Sep.put {A1 A2 A' : Option Addr} {c1 c2 c' : Nat} {W : World} {base : Nat} {l2 : List MV} (s : Sep A1 c1 A2 c2) (h2 : EM.Row W base A2 l2 c2) (r : RE.fp A' c' = none ∨ RE.fp A' c' = RE.fp A1 c1 ∨ RE.fp A' c' = some W.heap.size) : Sep A' c' A2 c2 := by
  rcases r with r | r | r
  · exact .inl r
  · unfold Sep; rw [r]; exact s
  · by_cases h : RE.fp A2 c2 = none
    · exact .inr (.inl h)
    · refine .inr (.inr ?_)
      rw [r]
      intro e
      have := (h2.fp_lt e.symm).2
      omega
abbrev pw (c : Int) : MV → Bool := fun x => x.w == c
abbrev ps (c : Int) : MV → Bool := fun x => x.s == c
abbrev pn (c : Int) : MV → Bool := fun x => x.n == c
theorem pk_yes {p : MV → Bool} {xs : List MV} {k : Nat} {x : MV} (h : xs[k]? = some x) (e : p x = true) : pk p (xs.take (k + 1)) = pk p (xs.take k) ++ [x] := by rw [pk_next h, if_pos e]
theorem pk_no {p : MV → Bool} {xs : List MV} {k : Nat} {x : MV} (h : xs[k]? = some x) (e : p x = false) : pk p (xs.take (k + 1)) = pk p (xs.take k) := by rw [pk_next h, if_neg (by rw [e]; decide), List.append_nil]
set_option maxRecDepth 100000 in
set_option maxHeartbeats 8000000 in
theorem counts_any (c who node : Int) (hc0 : 0 ≤ c) (hc1 : c ≤ 255) (A : Option Addr) (n cap : Nat) (xs : List MV) (w : World) (hl : xs.length = n) (hn : n ≤ cap) (hm : cap ≤ maxLen) (hA : EM.Rd w A xs) (h : GW w) :
    Calls Tryd.prog 5 #[.slice A n cap, .int .u8 c, .int .i64 who, .int .i64 node] w fun e w' => e = .returned (.bool true) ∧ Below w.heap.size w w' := by
  have FEW := Lib.hid (few_any A n cap w hn hm)
  obtain ⟨m, hm60⟩ : ∃ m, min n 60 = m := ⟨_, rfl⟩
  rw [hm60] at FEW
  have hm9 : m ≤ 60 := by omega
  obtain ⟨ys, hys⟩ : ∃ ys, xs.take m = ys := ⟨_, rfl⟩
  have hl9 : ys.length = m := by rw [← hys, List.length_take]; omega
  have HM := Lib.hid hm9
  have HL := Lib.hid hl9
  have HA := Lib.hid (fun W (b : Below w.heap.size w W) => (by rw [← hys]; exact (hA.later b).take m : EM.Rd W A ys))
  have HG := Lib.hid (fun W (b : Below w.heap.size w W) => h.later b)
  have HC := Lib.hid (show 0 ≤ c ∧ c ≤ 255 from ⟨hc0, hc1⟩)
  have B0 := Lib.hid (bel_trans (alb w (.cells #[] 35)) (alb (w.alloc (.cells #[] 35)) (.cells #[] 35)))
  clear hm60 hys hl hn hm hA h hc0 hc1 hm9 hl9
  go_enter Tryd.func5, Tryd.ntmps5
  go_upto_region 5 with (first
    | (go_at_call 6; ((refine FEW.out.mono ?_); rintro e w1 ⟨rfl, rfl⟩))
    | fail)
  go_loopw [9, 10, 11, 12] (fun nv ov av iv wr => ∃ (k : Nat) (A1 A2 : Option Addr) (q1 q2 c1 c2 : Nat), k ≤ m ∧ iv = .int .i64 k ∧ nv = .int .i64 ((pk (pw c) (ys.take k)).length : Int) ∧ ov = .slice A1 q1 c1 ∧ av = .slice A2 q2 c2 ∧ Hid ((pk (ps who) (ys.take k)).length = q1) ∧ Hid ((pk (pn node) (ys.take k)).length = q2) ∧ Hid (EM.Row wr w.heap.size A1 (pk (ps who) (ys.take k)) c1) ∧ Hid (EM.Row wr w.heap.size A2 (pk (pn node) (ys.take k)) c2) ∧ Hid (Sep A1 c1 A2 c2) ∧ Below w.heap.size w wr) (fun _ _ _ i _ => m - (intOf i).toNat)
  case atStart => exact ⟨0, some ⟨w.heap.size, 0, none⟩, some ⟨w.heap.size + 1, 0, none⟩, 0, 0, 0, 0, by omega, rfl, rfl, rfl, rfl, Lib.hid rfl, Lib.hid rfl, Lib.hid RE.Row.nil, Lib.hid RE.Row.nil, Lib.hid (.inl rfl), B0.out⟩
  case round =>
    obtain ⟨k, A1, A2, q1, q2, c1, c2, hk, rfl, rfl, rfl, rfl, HQ1, HQ2, HR1, HR2, HS, hb⟩ := hrel
    have HB := Lib.hid hb
    clear hb B0 FEW
    by_cases h8 : k < m
    · have hk1 : (k : Int) < (m : Int) := by omega
      have hk0 : (0 : Int) ≤ (k : Int) := by omega
      obtain ⟨x, hx⟩ : ∃ x, ys[k]? = some x := ⟨_, List.getElem?_eq_getElem (by rw [HL.out]; omega)⟩
      obtain ⟨b, off, rfl, hlt, g0, g1, g2, g3, g4⟩ := em_at (HA.out _ HB.out) hx
      have GC := Lib.hid (fun W (bw : Below w.heap.size w W) => (by
        obtain ⟨b', off', e, _, h0, h1, h2, h3, h4⟩ := em_at (HA.out W bw) hx
        cases e
        exact ⟨h0, h1, h2, h3, h4⟩ : W.cell? ⟨b, off + k * 5, none⟩ = some (.int .i64 x.s) ∧ W.cell? ⟨b, off + k * 5 + 1, none⟩ = some (.int .u8 x.w) ∧ W.cell? ⟨b, off + k * 5 + 2, none⟩ = some (.int .i64 x.n) ∧ W.cell? ⟨b, off + k * 5 + 3, none⟩ = some (.int .i64 x.v) ∧ W.cell? ⟨b, off + k * 5 + 4, none⟩ = some (.int .i64 x.e)))
      have WK : IntKind.i64.wrap ((k : Int) + 1) = (k : Int) + 1 := IntWalk.i64_in _ (by have := HM.out; omega)
      obtain ⟨nc, hnc⟩ : ∃ nc, (pk (pw c) (ys.take k)).length = nc := ⟨_, rfl⟩
      have l0 : nc ≤ k := by rw [← hnc]; exact pk_take _ _ _
      have l1 : q1 ≤ k := by rw [← HQ1.out]; exact pk_take _ _ _
      have l2 : q2 ≤ k := by rw [← HQ2.out]; exact pk_take _ _ _
      rw [hnc]
      have LQ := Lib.hid (show q1 ≤ 60 ∧ q2 ≤ 60 by have := HM.out; omega)
      have HNC := Lib.hid hnc
      have WN : IntKind.i64.wrap ((nc : Int) + 1) = (nc : Int) + 1 := IntWalk.i64_in _ (by have := HM.out; omega)
      have HX := Lib.hid hx
      clear hlt hnc l0 l1 l2 hx
      by_cases hw : x.w = c
      · have d1 : (x.w == c) = true := by simpa using hw
        have PW := Lib.hid (pk_yes HX.out (p := pw c) d1)
        clear hw
        by_cases hs : x.s = who
        · have d2 : (x.s == who) = true := by simpa using hs
          have PS := Lib.hid (pk_yes HX.out (p := ps who) d2)
          clear hs
          by_cases hn : x.n = node
          · have d3 : (x.n == node) = true := by simpa using hn
            have PN := Lib.hid (pk_yes HX.out (p := pn node) d3)
            clear hn
            have BS1 := Lib.hid (bel_alloc HB.out (MO x))
            have RW1 := Lib.hid (HR1.out.later (alb wr (MO x)))
            have RX1 := Lib.hid (HR2.out.later (alb wr (MO x)))
            have RL1 := Lib.hid (RE.Rd.lit (E := EM) wr 35 [x] #[.int .i64 x.s, .int .u8 x.w, .int .i64 x.n, .int .i64 x.v, .int .i64 x.e] rfl)
            go_wp2_with (first
              | (at_builtin; refine RE.wpList_put EM _ rfl (.tmp 39) (.tmp 44) rfl (base := w.heap.size) A1 q1 c1 _ _ 1 1 [x] rfl rfl RW1.out HQ1.out (by have := LQ.out; omega) BS1.out.size rfl (by omega) RL1.out ?_; intro A3 c3 w2 r1 r2 r3; have N1 := Lib.hid r1; have N2 := Lib.hid (RE.Row.kept RX1.out r2 HS.out.ne); have NS := Lib.hid (HS.out.put RX1.out r3); have NB := Lib.hid (BS1.out.trans (RE.Row.below r2 RW1.out (Nat.le_refl _) BS1.out.size)); clear r1 r2 r3; obtain ⟨e0, e1, e2, e3, e4⟩ := GC.out _ NB.out)
              | (at_builtin; have BS2 := Lib.hid (bel_alloc NB.out (MO x)); have RW2 := Lib.hid (N2.out.later (alb w2 (MO x))); have RX2 := Lib.hid (N1.out.later (alb w2 (MO x))); have RL2 := Lib.hid (RE.Rd.lit (E := EM) w2 35 [x] #[.int .i64 x.s, .int .u8 x.w, .int .i64 x.n, .int .i64 x.v, .int .i64 x.e] rfl); refine RE.wpList_put EM _ rfl (.tmp 53) (.tmp 58) rfl (base := w.heap.size) A2 q2 c2 _ _ 1 1 [x] rfl rfl RW2.out HQ2.out (by have := LQ.out; omega) BS2.out.size rfl (by omega) RL2.out ?_; intro A4 c4 w4 r1 r2 r3; have M2 := Lib.hid r1; have M1 := Lib.hid (RE.Row.kept RX2.out r2 NS.out.symm.ne); have MS := Lib.hid (Sep.symm (NS.out.symm.put RX2.out r3)); have MB := Lib.hid (BS2.out.trans (RE.Row.below r2 RW2.out (Nat.le_refl _) BS2.out.size)); clear r1 r2 r3)
              | fail)
            exact ⟨⟨k + 1, A3, A4, q1 + 1, q2 + 1, c3, c4, by omega, by simp, by rw [PW.out]; rw [List.length_append, HNC.out]; rfl, rfl, rfl, Lib.hid (by rw [PS.out, List.length_append]; exact congrArg (· + 1) HQ1.out), Lib.hid (by rw [PN.out, List.length_append]; exact congrArg (· + 1) HQ2.out), Lib.hid (by rw [PS.out]; exact M1.out), Lib.hid (by rw [PN.out]; exact M2.out), MS, MB.out⟩, by simp [intOf]; omega⟩
          · have d3 : (x.n == node) = false := by simpa using hn
            have PN := Lib.hid (pk_no HX.out (p := pn node) d3)
            clear hn
            have BS1 := Lib.hid (bel_alloc HB.out (MO x))
            have RW1 := Lib.hid (HR1.out.later (alb wr (MO x)))
            have RX1 := Lib.hid (HR2.out.later (alb wr (MO x)))
            have RL1 := Lib.hid (RE.Rd.lit (E := EM) wr 35 [x] #[.int .i64 x.s, .int .u8 x.w, .int .i64 x.n, .int .i64 x.v, .int .i64 x.e] rfl)
            go_wp2_with (first
              | (at_builtin; refine RE.wpList_put EM _ rfl (.tmp 39) (.tmp 44) rfl (base := w.heap.size) A1 q1 c1 _ _ 1 1 [x] rfl rfl RW1.out HQ1.out (by have := LQ.out; omega) BS1.out.size rfl (by omega) RL1.out ?_; intro A3 c3 w2 r1 r2 r3; have N1 := Lib.hid r1; have N2 := Lib.hid (RE.Row.kept RX1.out r2 HS.out.ne); have NS := Lib.hid (HS.out.put RX1.out r3); have NB := Lib.hid (BS1.out.trans (RE.Row.below r2 RW1.out (Nat.le_refl _) BS1.out.size)); clear r1 r2 r3; obtain ⟨e0, e1, e2, e3, e4⟩ := GC.out _ NB.out)
              | fail)
            exact ⟨⟨k + 1, A3, A2, q1 + 1, q2, c3, c2, by omega, by simp, by rw [PW.out]; rw [List.length_append, HNC.out]; rfl, rfl, rfl, Lib.hid (by rw [PS.out, List.length_append]; exact congrArg (· + 1) HQ1.out), Lib.hid (by rw [PN.out]; exact HQ2.out), Lib.hid (by rw [PS.out]; exact N1.out), Lib.hid (by rw [PN.out]; exact N2.out), NS, NB.out⟩, by simp [intOf]; omega⟩
        · have d2 : (x.s == who) = false := by simpa using hs
          have PS := Lib.hid (pk_no HX.out (p := ps who) d2)
          clear hs
          by_cases hn : x.n = node
          · have d3 : (x.n == node) = true := by simpa using hn
            have PN := Lib.hid (pk_yes HX.out (p := pn node) d3)
            clear hn
            have BS1 := Lib.hid (bel_alloc HB.out (MO x))
            go_wp2_with (first
              | (at_builtin; have BS2 := Lib.hid (bel_alloc HB.out (MO x)); have RW2 := Lib.hid (HR2.out.later (alb wr (MO x))); have RX2 := Lib.hid (HR1.out.later (alb wr (MO x))); have RL2 := Lib.hid (RE.Rd.lit (E := EM) wr 35 [x] #[.int .i64 x.s, .int .u8 x.w, .int .i64 x.n, .int .i64 x.v, .int .i64 x.e] rfl); refine RE.wpList_put EM _ rfl (.tmp 53) (.tmp 58) rfl (base := w.heap.size) A2 q2 c2 _ _ 1 1 [x] rfl rfl RW2.out HQ2.out (by have := LQ.out; omega) BS2.out.size rfl (by omega) RL2.out ?_; intro A4 c4 w4 r1 r2 r3; have M2 := Lib.hid r1; have M1 := Lib.hid (RE.Row.kept RX2.out r2 HS.out.symm.ne); have MS := Lib.hid (Sep.symm (HS.out.symm.put RX2.out r3)); have MB := Lib.hid (BS2.out.trans (RE.Row.below r2 RW2.out (Nat.le_refl _) BS2.out.size)); clear r1 r2 r3)
              | fail)
            exact ⟨⟨k + 1, A1, A4, q1, q2 + 1, c1, c4, by omega, by simp, by rw [PW.out]; rw [List.length_append, HNC.out]; rfl, rfl, rfl, Lib.hid (by rw [PS.out]; exact HQ1.out), Lib.hid (by rw [PN.out, List.length_append]; exact congrArg (· + 1) HQ2.out), Lib.hid (by rw [PS.out]; exact M1.out), Lib.hid (by rw [PN.out]; exact M2.out), MS, MB.out⟩, by simp [intOf]; omega⟩
          · have d3 : (x.n == node) = false := by simpa using hn
            have PN := Lib.hid (pk_no HX.out (p := pn node) d3)
            clear hn
            have BS1 := Lib.hid (bel_alloc HB.out (MO x))
            go_wp2
            exact ⟨⟨k + 1, A1, A2, q1, q2, c1, c2, by omega, by simp, by rw [PW.out]; rw [List.length_append, HNC.out]; rfl, rfl, rfl, Lib.hid (by rw [PS.out]; exact HQ1.out), Lib.hid (by rw [PN.out]; exact HQ2.out), Lib.hid (by rw [PS.out]; exact HR1.out), Lib.hid (by rw [PN.out]; exact HR2.out), HS, HB.out⟩, by simp [intOf]; omega⟩
      · have d1 : (x.w == c) = false := by simpa using hw
        have PW := Lib.hid (pk_no HX.out (p := pw c) d1)
        clear hw
        by_cases hs : x.s = who
        · have d2 : (x.s == who) = true := by simpa using hs
          have PS := Lib.hid (pk_yes HX.out (p := ps who) d2)
          clear hs
          by_cases hn : x.n = node
          · have d3 : (x.n == node) = true := by simpa using hn
            have PN := Lib.hid (pk_yes HX.out (p := pn node) d3)
            clear hn
            have BS1 := Lib.hid (bel_alloc HB.out (MO x))
            have RW1 := Lib.hid (HR1.out.later (alb wr (MO x)))
            have RX1 := Lib.hid (HR2.out.later (alb wr (MO x)))
            have RL1 := Lib.hid (RE.Rd.lit (E := EM) wr 35 [x] #[.int .i64 x.s, .int .u8 x.w, .int .i64 x.n, .int .i64 x.v, .int .i64 x.e] rfl)
            go_wp2_with (first
              | (at_builtin; refine RE.wpList_put EM _ rfl (.tmp 39) (.tmp 44) rfl (base := w.heap.size) A1 q1 c1 _ _ 1 1 [x] rfl rfl RW1.out HQ1.out (by have := LQ.out; omega) BS1.out.size rfl (by omega) RL1.out ?_; intro A3 c3 w2 r1 r2 r3; have N1 := Lib.hid r1; have N2 := Lib.hid (RE.Row.kept RX1.out r2 HS.out.ne); have NS := Lib.hid (HS.out.put RX1.out r3); have NB := Lib.hid (BS1.out.trans (RE.Row.below r2 RW1.out (Nat.le_refl _) BS1.out.size)); clear r1 r2 r3; obtain ⟨e0, e1, e2, e3, e4⟩ := GC.out _ NB.out)
              | (at_builtin; have BS2 := Lib.hid (bel_alloc NB.out (MO x)); have RW2 := Lib.hid (N2.out.later (alb w2 (MO x))); have RX2 := Lib.hid (N1.out.later (alb w2 (MO x))); have RL2 := Lib.hid (RE.Rd.lit (E := EM) w2 35 [x] #[.int .i64 x.s, .int .u8 x.w, .int .i64 x.n, .int .i64 x.v, .int .i64 x.e] rfl); refine RE.wpList_put EM _ rfl (.tmp 53) (.tmp 58) rfl (base := w.heap.size) A2 q2 c2 _ _ 1 1 [x] rfl rfl RW2.out HQ2.out (by have := LQ.out; omega) BS2.out.size rfl (by omega) RL2.out ?_; intro A4 c4 w4 r1 r2 r3; have M2 := Lib.hid r1; have M1 := Lib.hid (RE.Row.kept RX2.out r2 NS.out.symm.ne); have MS := Lib.hid (Sep.symm (NS.out.symm.put RX2.out r3)); have MB := Lib.hid (BS2.out.trans (RE.Row.below r2 RW2.out (Nat.le_refl _) BS2.out.size)); clear r1 r2 r3)
              | fail)
            exact ⟨⟨k + 1, A3, A4, q1 + 1, q2 + 1, c3, c4, by omega, by simp, by rw [PW.out]; rw [HNC.out], rfl, rfl, Lib.hid (by rw [PS.out, List.length_append]; exact congrArg (· + 1) HQ1.out), Lib.hid (by rw [PN.out, List.length_append]; exact congrArg (· + 1) HQ2.out), Lib.hid (by rw [PS.out]; exact M1.out), Lib.hid (by rw [PN.out]; exact M2.out), MS, MB.out⟩, by simp [intOf]; omega⟩
          · have d3 : (x.n == node) = false := by simpa using hn
            have PN := Lib.hid (pk_no HX.out (p := pn node) d3)
            clear hn
            have BS1 := Lib.hid (bel_alloc HB.out (MO x))
            have RW1 := Lib.hid (HR1.out.later (alb wr (MO x)))
            have RX1 := Lib.hid (HR2.out.later (alb wr (MO x)))
            have RL1 := Lib.hid (RE.Rd.lit (E := EM) wr 35 [x] #[.int .i64 x.s, .int .u8 x.w, .int .i64 x.n, .int .i64 x.v, .int .i64 x.e] rfl)
            go_wp2_with (first
              | (at_builtin; refine RE.wpList_put EM _ rfl (.tmp 39) (.tmp 44) rfl (base := w.heap.size) A1 q1 c1 _ _ 1 1 [x] rfl rfl RW1.out HQ1.out (by have := LQ.out; omega) BS1.out.size rfl (by omega) RL1.out ?_; intro A3 c3 w2 r1 r2 r3; have N1 := Lib.hid r1; have N2 := Lib.hid (RE.Row.kept RX1.out r2 HS.out.ne); have NS := Lib.hid (HS.out.put RX1.out r3); have NB := Lib.hid (BS1.out.trans (RE.Row.below r2 RW1.out (Nat.le_refl _) BS1.out.size)); clear r1 r2 r3; obtain ⟨e0, e1, e2, e3, e4⟩ := GC.out _ NB.out)
              | fail)
            exact ⟨⟨k + 1, A3, A2, q1 + 1, q2, c3, c2, by omega, by simp, by rw [PW.out]; rw [HNC.out], rfl, rfl, Lib.hid (by rw [PS.out, List.length_append]; exact congrArg (· + 1) HQ1.out), Lib.hid (by rw [PN.out]; exact HQ2.out), Lib.hid (by rw [PS.out]; exact N1.out), Lib.hid (by rw [PN.out]; exact N2.out), NS, NB.out⟩, by simp [intOf]; omega⟩
        · have d2 : (x.s == who) = false := by simpa using hs
          have PS := Lib.hid (pk_no HX.out (p := ps who) d2)
          clear hs
          by_cases hn : x.n = node
          · have d3 : (x.n == node) = true := by simpa using hn
            have PN := Lib.hid (pk_yes HX.out (p := pn node) d3)
            clear hn
            have BS1 := Lib.hid (bel_alloc HB.out (MO x))
            go_wp2_with (first
              | (at_builtin; have BS2 := Lib.hid (bel_alloc HB.out (MO x)); have RW2 := Lib.hid (HR2.out.later (alb wr (MO x))); have RX2 := Lib.hid (HR1.out.later (alb wr (MO x))); have RL2 := Lib.hid (RE.Rd.lit (E := EM) wr 35 [x] #[.int .i64 x.s, .int .u8 x.w, .int .i64 x.n, .int .i64 x.v, .int .i64 x.e] rfl); refine RE.wpList_put EM _ rfl (.tmp 53) (.tmp 58) rfl (base := w.heap.size) A2 q2 c2 _ _ 1 1 [x] rfl rfl RW2.out HQ2.out (by have := LQ.out; omega) BS2.out.size rfl (by omega) RL2.out ?_; intro A4 c4 w4 r1 r2 r3; have M2 := Lib.hid r1; have M1 := Lib.hid (RE.Row.kept RX2.out r2 HS.out.symm.ne); have MS := Lib.hid (Sep.symm (HS.out.symm.put RX2.out r3)); have MB := Lib.hid (BS2.out.trans (RE.Row.below r2 RW2.out (Nat.le_refl _) BS2.out.size)); clear r1 r2 r3)
              | fail)
            exact ⟨⟨k + 1, A1, A4, q1, q2 + 1, c1, c4, by omega, by simp, by rw [PW.out]; rw [HNC.out], rfl, rfl, Lib.hid (by rw [PS.out]; exact HQ1.out), Lib.hid (by rw [PN.out, List.length_append]; exact congrArg (· + 1) HQ2.out), Lib.hid (by rw [PS.out]; exact M1.out), Lib.hid (by rw [PN.out]; exact M2.out), MS, MB.out⟩, by simp [intOf]; omega⟩
          · have d3 : (x.n == node) = false := by simpa using hn
            have PN := Lib.hid (pk_no HX.out (p := pn node) d3)
            clear hn
            have BS1 := Lib.hid (bel_alloc HB.out (MO x))
            go_wp2
            exact ⟨⟨k + 1, A1, A2, q1, q2, c1, c2, by omega, by simp, by rw [PW.out]; rw [HNC.out], rfl, rfl, Lib.hid (by rw [PS.out]; exact HQ1.out), Lib.hid (by rw [PN.out]; exact HQ2.out), Lib.hid (by rw [PS.out]; exact HR1.out), Lib.hid (by rw [PN.out]; exact HR2.out), HS, HB.out⟩, by simp [intOf]; omega⟩
    · have hkn : k = m := by omega
      subst hkn
      have hk1 : ¬ (k : Int) < (k : Int) := by omega
      have HT : Hid (ys.take k = ys) := Lib.hid (by rw [← HL.out, List.take_length])
      rw [HT.out] at HQ1 HQ2 HR1 HR2 ⊢
      have hq1 := HQ1.out
      have hq2 := HQ2.out
      subst hq1 hq2
      have GG := Lib.hid (fun W (bw : Below wr.heap.size wr W) => HG.out W (bel_trans HB.out bw))
      have AA := Lib.hid (fun W (bw : Below wr.heap.size wr W) => HA.out W (bel_trans HB.out bw))
      have R1 := Lib.hid (fun W (bw : Below wr.heap.size wr W) => HR1.out.rd.later bw)
      have R2 := Lib.hid (fun W (bw : Below wr.heap.size wr W) => HR2.out.rd.later bw)
      have PL := Lib.hid (fun p => (Nat.le_trans (pk_len p ys) (by have := HL.out; have := HM.out; omega) : (pk p ys).length ≤ 1000))
      have RB := Lib.hid (Nat.le_trans (rP_b (pk (ps who) ys) (pk (ps who) ys).length).2.2 (PL.out (ps who)))
      rw [List.take_length] at RB
      clear HQ1 HQ2 HR1 HR2 HS h8 hk1 HA HG HT
      go_wp2_with (first
        | (go_at_call 9; ((refine (live_any _ (GG.out _ (Below.refl _ _))).mono ?_); rintro e w2 ⟨rfl, b2⟩; have C2 := Lib.hid b2; clear b2))
        | (go_at_call 12; ((refine (count_any c A k cap ys _ HL.out (by have := HM.out; omega) (AA.out _ C2.out)).mono ?_); rintro e w3 ⟨rfl, b3⟩; have C3 := Lib.hid (bel_trans C2.out b3); clear b3))
        | (go_at_call 13; ((refine (of_any who A k cap ys _ HL.out (by have := HM.out; omega) (AA.out _ C3.out)).mono ?_); rintro e w4 ⟨A4, c4, rfl, r4, b4⟩; have C4 := Lib.hid (bel_trans C3.out b4); have R4 := Lib.hid r4.rd; clear r4 b4))
        | (go_at_call 14; ((refine (at_any node A k cap ys _ HL.out (by have := HM.out; omega) (AA.out _ C5.out)).mono ?_); rintro e w6 ⟨A6, c6, rfl, r6, b6⟩; have C6 := Lib.hid (bel_trans C5.out b6); have R6 := Lib.hid r6.rd; clear r6 b6))
        | (go_at_call 11; ((with_reducible refine (same_m A4 A1 _ c4 c1 (pk (ps who) ys) w4 rfl (PL.out _) R4.out (R1.out _ C4.out)).mono ?_); rintro e w5 ⟨rfl, b5⟩; have C5 := Lib.hid (bel_trans C4.out b5); clear b5))
        | (go_at_call 11; ((with_reducible refine (same_m A6 A2 _ c6 c2 (pk (pn node) ys) w6 rfl (PL.out _) R6.out (R2.out _ C6.out)).mono ?_); rintro e w7 ⟨rfl, b7⟩; have C7 := Lib.hid (bel_trans C6.out b7); clear b7))
        | (go_at_call 16; ((refine (rounds_any who A k cap ys _ HL.out (by have := HM.out; omega) (AA.out _ C7.out)).mono ?_); rintro e w8 ⟨A8, c8, rfl, r8, b8⟩; have C8 := Lib.hid (bel_trans C7.out b8); have R8 := Lib.hid r8.rd; clear r8 b8))
        | (go_at_call 17; ((refine (rounds_ref who A k cap ys _ HL.out (by have := HM.out; omega) (AA.out _ C8.out)).mono ?_); rintro e w9 ⟨A9, c9, rfl, r9, b9⟩; have C9 := Lib.hid (bel_trans C8.out b9); have S8 := Lib.hid (R8.out.later b9); have R9 := Lib.hid r9.rd; clear r9 b9))
        | (go_at_call 15; ((refine (same_i A8 A9 _ c8 c9 _ w9 rfl RB.out S8.out R9.out).mono ?_); rintro e wa ⟨rfl, ba⟩; have Ca := Lib.hid (bel_trans C9.out ba); clear ba))
        | (go_at_call 18; ((refine (word_any c HC.out.1 HC.out.2 _ (GG.out _ Ca.out)).mono ?_); rintro e wb ⟨rfl, bb⟩; have Cb := Lib.hid (bel_trans Ca.out bb); clear bb))
        | (go_at_call 19; ((refine (word_ref c HC.out.1 HC.out.2 _).mono ?_); rintro e wc ⟨rfl, bc⟩; have Cc := Lib.hid (bel_trans Cb.out bc); clear bc))
        | fail)
      refine bodyPost_ret (v := .bool true) (by simp [results, Tryd.results5, go_sem]) rfl ⟨rfl, bel_trans HB.out Cc.out⟩
end Go.Proofs.YtocbabckihcdmaaDoor
