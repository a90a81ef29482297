/- The law EpochAll. -/
import Derived.Test.YtlffigkjhhcohaaS8
namespace Go.Proofs.Ytlffigkjhhcohaa
set_option linter.unusedSimpArgs false
open Go.RowKit Go.Maps
set_option linter.unusedVariables false

/-- Only sessions that there are, are in. -/
def InvS (b : RB) : Prop := b.ss = 4 ∧ ∀ i, b.inn i = true → 1 ≤ i ∧ i ≤ 4
theorem InvS.new : InvS (newB 4) := ⟨rfl, fun i h => by cases h⟩
theorem InvS.leave {b : RB} (h : InvS b) (who : Int) : InvS (leaveR b who) := by
  unfold leaveR
  split
  · refine ⟨h.1, fun i hi => ?_⟩
    simp only [leaveB] at hi
    split at hi
    · cases hi
    · exact h.2 i hi
  · exact h
theorem InvS.enter {b : RB} (h : InvS b) (who : Int) : InvS (enterR b who) := by
  unfold enterR
  split
  · rename_i ha
    refine ⟨h.1, fun i hi => ?_⟩
    simp only [enterB] at hi
    split at hi
    · rename_i e
      obtain ⟨h1, h2, _⟩ := ask_range ha
      have := h.1
      omega
    · exact h.2 i hi
  · exact h
theorem InvS.step {b : RB} (h : InvS b) (d who n : Int) : InvS (stepR b d who n) := by
  unfold stepR
  split
  · exact h.enter who
  · split
    · exact h.leave who
    · split
      · exact ⟨h.1, h.2⟩
      · split
        · exact ⟨h.1, h.2⟩
        · exact h
theorem InvS.play {b : RB} (h : InvS b) (d0 d1 d2 : Nat → Int) (k : Nat) : InvS (playR d0 d1 d2 b k) := by
  induction k with
  | zero => exact h
  | succ k ih => exact ih.step _ _ _
/-- Sessions 1 to k have left. -/
def outR (b : RB) : Nat → RB
  | 0 => b
  | k + 1 => leaveR (outR b k) ((k + 1 : Nat) : Int)
theorem InvS.out {b : RB} (h : InvS b) (k : Nat) : InvS (outR b k) := by
  induction k with
  | zero => exact h
  | succ k ih => exact ih.leave _
theorem ask4 {b : RB} (h : InvS b) {k : Nat} (h1 : 1 ≤ k) (h2 : k ≤ 4) (f : Bool) : askR b k f = if b.inn k = f then 0 else 15 := by
  unfold askR
  rw [if_neg (by omega), if_neg (by have := h.1; omega), Int.toNat_natCast]
theorem in4 {b : RB} {k : Nat} (h1 : 1 ≤ k) (h2 : k ≤ 4) : inR b k = b.inn k := by
  unfold inR
  rw [Int.toNat_natCast]
  have e1 : (1 : Int) ≤ (k : Int) := by omega
  have e2 : (k : Int) ≤ 64 := by omega
  simp [e1, e2]
theorem out_not {b : RB} (h : InvS b) (k : Nat) (hk : k < 4) : (outR b (k + 1)).inn (k + 1) = false := by
  have e := ask4 (h.out k) (k := k + 1) (by omega) (by omega) true
  show (leaveR (outR b k) ((k + 1 : Nat) : Int)).inn (k + 1) = false
  unfold leaveR
  rw [e]
  cases hb : (outR b k).inn (k + 1)
  · simp [hb]
  · simp [leaveB]
theorem leave_stays {b : RB} {who : Int} {i : Nat} (h : b.inn i = false) : (leaveR b who).inn i = false := by
  unfold leaveR
  split
  · simp only [leaveB]; split
    · rfl
    · exact h
  · exact h
theorem out_all {b : RB} (h : InvS b) : ∀ k, k ≤ 4 → ∀ i, 1 ≤ i → i ≤ k → (outR b k).inn i = false := by
  intro k
  induction k with
  | zero => intro _ i h1 h2; omega
  | succ k ih =>
    intro hk i h1 h2
    by_cases e : i = k + 1
    · subst e; exact out_not h k (by omega)
    · exact leave_stays (ih (by omega) i h1 (by omega))
theorem out_none {b : RB} (h : InvS b) (i : Nat) : (outR b 4).inn i = false := by
  cases hb : (outR b 4).inn i
  · rfl
  · have h1 := (h.out 4).2 i hb
    rw [out_all h 4 (Nat.le_refl _) i h1.1 h1.2] at hb; cases hb
theorem least_none {b : RB} (h : ∀ i, b.inn i = false) : leastR b 64 = b.now := by
  have h1 : leastR b 64 ≤ b.now := ((least_iff b 64 (leastR b 64)).1 (Int.le_refl _)).1
  have h2 : b.now ≤ leastR b 64 := (least_iff b 64 b.now).2 ⟨Int.le_refl _, fun i _ _ hi => by rw [h i] at hi; cases hi⟩
  omega
theorem nR_all {c m : Nat} {S : Int → Option Int} {b : RB} (he : EQ c S m b) (h : ∀ i, b.inn i = false) : nR b = b.al.length := by
  have h1 := nR_le b
  rcases Nat.lt_or_ge (nR b) b.al.length with h2 | h2
  · have h3 := (he.nlt (nR b) h2).1 (by rw [least_none h]; exact he.lt _ h2)
    omega
  · omega
def empB (b : RB) : RB := { b with wl := [], al := [] }
def RPost1 (w : World) (N : Nat) (bo b0 : RB) (V : World) (cs : Array Value) (Ad : Option Addr) (e : Ending) (w' : World) : Prop := ∃ A k, e = .returned (.slice A bo.wl.length k) ∧ RdI w' A bo.wl ∧ RdI w' Ad bo.wl ∧ ST 65 w.heap.size N (fun _ => False) (empB bo) b0 w' cs ∧ Below w.heap.size V w'
def RPost2 (w : World) (N : Nat) (bo b0 : RB) (V : World) (cs : Array Value) (e : Ending) (w' : World) : Prop := ∃ A k, e = .returned (.slice A 0 k) ∧ ST 66 w.heap.size N (fun _ => False) (empB bo) b0 w' cs ∧ Below w.heap.size V w'
/-- A row that was made since. -/
theorem ST.with_row {c lo N : Nat} {K : Nat → Prop} {b b' : RB} {w w' : World} {cs : Array Value} {A : Option Addr} {l : List Int} {k : Nat} (h : ST c lo N K b b' w cs) (hb : Below w.heap.size w w') (hr : Row w' w.heap.size A l k) : STL c lo N K b b' w' cs A l := by
  obtain ⟨M, A1, A2, k1, k2, m, S, h1, h2, h3, h4, hK⟩ := h
  refine ⟨M, A1, A2, k1, k2, m, S, h1.later hb, h2.later hb, h3, ⟨hr.rd, ?_⟩, fun g hg => ⟨Nat.lt_of_lt_of_le (hK g hg).1 hb.size, (hK g hg).2⟩⟩
  exact row_out hr (Nat.le_refl _) (Lib.hid (finK h1.fin hK))
theorem ready_all {w V : World} {N : Nat} {bo b0 : RB} {cs : Array Value} {Ad : Option Addr} (h : STL 64 w.heap.size N (fun _ => False) bo b0 V cs Ad bo.wl) (hl : w.heap.size ≤ V.heap.size) (hn : nR bo = bo.wl.length) (ha : bo.al.length = bo.wl.length) : Calls Try.prog 16 #[.pointer (some ⟨N, 0, none⟩)] V (RPost1 w N bo b0 V cs Ad) := by
  refine (q_ready h (by omega) hl).mono ?_
  rintro e w' ⟨A, k, rfl, h1, h2, h3, _⟩
  have e1 : bo.wl.take (nR bo) = bo.wl := List.take_of_length_le (by omega)
  have e2 : readyR bo (nR bo) = empB bo := by
    unfold readyR empB
    rw [List.drop_eq_nil_iff.2 (by omega), List.drop_eq_nil_iff.2 (by omega)]
  rw [e1] at h1
  rw [e2] at h2
  exact ⟨A, k, by rw [hn], h1.rd, h2.rd, h2.off, h3⟩
theorem ready_none {w V : World} {N : Nat} {bo b0 : RB} {cs : Array Value} (h : ST 65 w.heap.size N (fun _ => False) (empB bo) b0 V cs) (hl : w.heap.size ≤ V.heap.size) : Calls Try.prog 16 #[.pointer (some ⟨N, 0, none⟩)] V (RPost2 w N bo b0 V cs) := by
  refine (q_ready h (by omega) hl).mono ?_
  rintro e w' ⟨A, k, rfl, h1, h2, h3, _⟩
  have e0 : nR (empB bo) = 0 := by
    have h := nR_le (empB bo)
    have e : (empB bo).al.length = 0 := rfl
    omega
  rw [e0] at h2 ⊢
  exact ⟨A, k, rfl, h2, h3⟩
set_option maxRecDepth 4000 in
set_option maxHeartbeats 1000000 in
theorem all_walk (A : Option Addr) (n cap : Nat) (d0 d1 d2 : Nat → Int) (w : World) (hD : Deeds w A n d0 d1 d2) (hn : n ≤ maxLen) :
    Calls Try.prog 5 #[.slice A n cap] w fun e w' => e = .returned (.bool true) ∧ Below w.heap.size w w' := by
  have hal := run_zb
  have PL := Lib.hid (fun W (hb : Below w.heap.size w W) => played_any A n cap d0 d1 d2 W (hD.low hb) hn)
  clear hD
  go_enter Try.func5, Try.ntmps5
  go_wp2_with (first
    | (go_at_call 11; ((with_reducible refine (PL.out w (Below.refl _ _)).mono ?_); rintro e w1 ⟨N, cs, rfl, h1, b1⟩; have H1 := Lib.hid h1; have B1 := Lib.hid b1; have Z1 := Lib.hid (heap_alloc_new w1 (.cells zb 32)); clear h1 b1))
    | (refine wpList_store_row rfl 32 _ _ rfl w1.heap.size cs rfl rfl 32 zb Z1.out (by rw [H1.out.size]; exact info32) (by rw [H1.out.size]; exact zb_size) H1.out.one ?_)
    | fail)
  change Code.wp _ _ _ _ (W2 w1 cs)
  have HB : Hid (Below w.heap.size w (W2 w1 cs)) := Lib.hid (B1.out.trans ((W2.bel w1 cs).mono B1.out.size))
  have H2 := Lib.hid (H1.out.later (W2.bel w1 cs))
  obtain ⟨b0, hb0⟩ : ∃ b, b = playR d0 d1 d2 (newB 4) (min n 60) := ⟨_, rfl⟩
  have HI : Hid (InvS b0) := Lib.hid (by rw [hb0]; exact InvS.new.play _ _ _ _)
  rw [← hb0] at H1 H2
  clear B1 Z1 H1 hb0 PL
  generalize W2 w1 cs = W at *
  go_loopw [6] (fun iv wr => ∃ (k : Nat), k ≤ 4 ∧ iv = .int .i64 ((k + 1 : Nat) : Int) ∧ ST (60 + k) w.heap.size N (fun _ => False) (outR b0 k) b0 wr cs ∧ Below w.heap.size w wr) (fun i _ => 6 - (intOf i).toNat)
  case atStart => exact ⟨0, by omega, rfl, H2.out, HB.out⟩
  case round =>
    obtain ⟨k, hk, rfl, hst, hb⟩ := hrel
    have HST := Lib.hid hst
    have HBR := Lib.hid hb
    clear hst hb H2 HB
    by_cases h8 : k = 4
    · subst h8
      obtain ⟨m, S, he⟩ := HST.out.eq
      obtain ⟨bo, hbo⟩ : ∃ b, b = outR b0 4 := ⟨_, rfl⟩
      have hno : ∀ i, bo.inn i = false := by rw [hbo]; exact out_none HI.out
      rw [← hbo] at he HST
      have hn1 : nR bo = bo.wl.length := (nR_all he hno).trans he.al
      have HWL : Hid (bo.wl.length ≤ 64) := Lib.hid (by have := he.wl; omega)
      have R1 : Hid (∀ V Ad, STL 64 w.heap.size N (fun _ => False) bo b0 V cs Ad bo.wl → w.heap.size ≤ V.heap.size → Calls Try.prog 16 #[.pointer (some ⟨N, 0, none⟩)] V (RPost1 w N bo b0 V cs Ad)) := Lib.hid (fun V Ad h hl => ready_all h hl hn1 he.al)
      have R2 : Hid (∀ V, ST 65 w.heap.size N (fun _ => False) (empB bo) b0 V cs → w.heap.size ≤ V.heap.size → Calls Try.prog 16 #[.pointer (some ⟨N, 0, none⟩)] V (RPost2 w N bo b0 V cs)) := Lib.hid (fun V h hl => ready_none h hl)
      have R3 : Hid (∀ V, ST 66 w.heap.size N (fun _ => False) (empB bo) b0 V cs → Calls Try.prog 21 #[.pointer (some ⟨N, 0, none⟩)] V (OwnPost V [])) := Lib.hid (fun V h => q_waits h (by omega))
      have R4 : Hid (∀ V, ST 66 w.heap.size N (fun _ => False) (empB bo) b0 V cs → Calls Try.prog 23 #[.pointer (some ⟨N, 0, none⟩)] V fun e w' => e = .returned (.int .i64 bo.now) ∧ Below V.heap.size V w') := Lib.hid (fun V h => by have h2 := q_least h; rw [least_none (b := empB bo) hno] at h2; exact h2)
      have R5 : Hid (∀ V, ST 66 w.heap.size N (fun _ => False) (empB bo) b0 V cs → Calls Try.prog 24 #[.pointer (some ⟨N, 0, none⟩)] V fun e w' => e = .returned (.int .i64 bo.now) ∧ Below V.heap.size V w') := Lib.hid (fun V h => by have h2 := q_now h; exact h2)
      clear he hno hn1 hbo
      go_wp2_with (first
        | (go_at_call 21; ((with_reducible refine (q_waits HST.out (by omega)).mono ?_); rintro e w2 ⟨A2, k2, rfl, r2, b2⟩; have H2 := Lib.hid (HST.out.with_row b2 r2); have B2 := Lib.hid (HBR.out.trans (b2.mono HBR.out.size)); clear r2 b2))
        | (go_at_call 16; ((with_reducible refine (R1.out _ _ H2.out B2.out.size).mono ?_); rintro e w3 ⟨A3, k3, rfl, r3, q3, h3, b3⟩; have H3 := Lib.hid h3; have RA := Lib.hid r3; have RW := Lib.hid q3; have B3 := Lib.hid (B2.out.trans b3); clear r3 q3 h3 b3))
        | (go_at_call 8; ((with_reducible refine (live_any _).mono ?_); rintro e w4 ⟨rfl, b4⟩; have H4 := Lib.hid (H3.out.later b4); have B4 := Lib.hid (B3.out.trans (b4.mono B3.out.size)); have RA4 := Lib.hid (Rd.later RA.out b4); have RW4 := Lib.hid (Rd.later RW.out b4); clear b4))
        | (go_at_call 22; ((with_reducible refine (same_yes A2 A3 bo.wl.length k2 bo.wl.length k3 bo.wl w4 rfl rfl (by have := HWL.out; omega) RW4.out RA4.out).mono ?_); rintro e w5 ⟨rfl, b5⟩; have H5 := Lib.hid (H4.out.later b5); have B5 := Lib.hid (B4.out.trans (b5.mono B4.out.size)); clear b5))
        | (go_at_call 16; ((with_reducible refine (R2.out _ H5.out B5.out.size).mono ?_); rintro e w6 ⟨A6, k6, rfl, h6, b6⟩; have H6 := Lib.hid h6; have B6 := Lib.hid (B5.out.trans b6); clear h6 b6))
        | (go_at_call 21; ((with_reducible refine (R3.out _ H6.out).mono ?_); rintro e w7 ⟨A7, k7, rfl, _, b7⟩; have H7 := Lib.hid (H6.out.later b7); have B7 := Lib.hid (B6.out.trans (b7.mono B6.out.size)); clear b7))
        | (go_at_call 23; ((with_reducible refine (R4.out _ H7.out).mono ?_); rintro e w8 ⟨rfl, b8⟩; have H8 := Lib.hid (H7.out.later b8); have B8 := Lib.hid (B7.out.trans (b8.mono B7.out.size)); clear b8))
        | (go_at_call 24; ((with_reducible refine (R5.out _ H8.out).mono ?_); rintro e w9 ⟨rfl, b9⟩; have B9 := Lib.hid (B8.out.trans (b9.mono B8.out.size)); clear b9))
        | fail)
      go_ret
      exact ⟨rfl, B9.out⟩
    · have hk4 : k < 4 := by omega
      have i1 : ((k + 1 : Nat) : Int) ≤ 4 := by omega
      have i0 : (0 : Int) ≤ ((k + 1 : Nat) : Int) := by omega
      have hwf : (Lit.int .i64 ((k + 1 : Nat) : Int)).wf = true := now_wf (c := 5) ⟨by omega, by omega⟩ (by omega)
      obtain ⟨r, hr⟩ : ∃ r, r = (outR b0 k).inn (k + 1) := ⟨_, rfl⟩
      have e1 : inR (outR b0 k) ((k + 1 : Nat) : Int) = r := by rw [hr]; exact in4 (by omega) (by omega)
      have e2 : askR (outR b0 k) ((k + 1 : Nat) : Int) true = if r = true then 0 else 15 := by rw [hr]; exact ask4 (HI.out.out k) (by omega) (by omega) true
      have e3 : inR (outR b0 (k + 1)) ((k + 1 : Nat) : Int) = false := (in4 (by omega) (by omega)).trans (out_not HI.out k hk4)
      have C1 := Lib.hid (by have h := q_in HST.out hwf; rw [e1] at h; exact h)
      have C2 : Hid (∀ V, ST (60 + k) w.heap.size N (fun _ => False) (outR b0 k) b0 V cs → w.heap.size ≤ V.heap.size → Calls Try.prog 20 #[.pointer (some ⟨N, 0, none⟩), .int .i64 ((k + 1 : Nat) : Int)] V (QPost (60 + k + 1) w.heap.size N (fun _ => False) (outR b0 (k + 1)) b0 (if r = true then 0 else 15) V cs)) := Lib.hid (fun V h hl => by have h2 := q_leave h hl hwf; rw [e2] at h2; exact h2)
      have C3 : Hid (∀ V, ST (60 + k + 1) w.heap.size N (fun _ => False) (outR b0 (k + 1)) b0 V cs → Calls Try.prog 19 #[.pointer (some ⟨N, 0, none⟩), .int .i64 ((k + 1 : Nat) : Int)] V fun e w' => e = .returned (.bool false) ∧ Below V.heap.size V w') := Lib.hid (fun V h => by have h2 := q_in h hwf; rw [e3] at h2; exact h2)
      clear e1 e2 e3 hr hwf
      obtain ⟨j, hj⟩ : ∃ j : Int, j = ((k + 1 : Nat) : Int) := ⟨_, rfl⟩
      rw [← hj] at C1 C2 C3 i0 i1 ⊢
      have HJ := Lib.hid hj
      clear hj
      cases r
      all_goals
        go_wp2_with (first
          | (go_at_call 19; ((with_reducible refine C1.out.mono ?_); rintro e w2 ⟨rfl, b2⟩; have H2 := Lib.hid (HST.out.later b2); have B2 := Lib.hid (HBR.out.trans (b2.mono HBR.out.size)); clear b2))
          | (go_at_call 20; ((with_reducible refine (C2.out _ H2.out B2.out.size).mono ?_); rintro e w3 ⟨rfl, h3, b3, _⟩; have H3 := Lib.hid h3; have B3 := Lib.hid (B2.out.trans b3); clear h3 b3))
          | (go_at_call 19; ((with_reducible refine (C3.out _ H3.out).mono ?_); rintro e w4 ⟨rfl, b4⟩; have H4 := Lib.hid (H3.out.later b4); have B4 := Lib.hid (B3.out.trans (b4.mono B3.out.size)); clear b4))
          | fail)
        refine ⟨⟨k + 1, by omega, by rw [HJ.out]; simp, H4.out, B4.out⟩, by rw [HJ.out]; simp [intOf]; omega⟩
end Go.Proofs.Ytlffigkjhhcohaa
