/- PivotParts: each key lies in just one part: the law's walk. -/
import Derived.Test.YtngldfheneegcaaQ3
import Derived.Test.YtngldfheneegcaaQ4
import Derived.Test.YtngldfheneegcaaQ1
namespace Go.Proofs.Ytngldfheneegcaa
set_option linter.unusedSimpArgs false
open Go.RowKit
set_option linter.unusedVariables false

theorem flt_get : ∀ (ps : List (ByteArray × ByteArray)) (i : Nat) (x : ByteArray × ByteArray), ps[i]? = some x → (flt ps)[i * 2]? = some (.string x.1) ∧ (flt ps)[i * 2 + 1]? = some (.string x.2)
  | [], i, x, h => by simp at h
  | y :: ps, 0, x, h => by simp at h; subst h; simp [flt]
  | y :: ps, i + 1, x, h => by
    have := flt_get ps i x (by simpa using h)
    have e : flt (y :: ps) = Value.string y.1 :: Value.string y.2 :: flt ps := by simp [flt]
    rw [e, show (i + 1) * 2 = i * 2 + 1 + 1 by omega]
    simpa using this
theorem rdp_get {w : World} {A : Option Addr} {ps : List (ByteArray × ByteArray)} (h : RdP w A ps) {i : Nat} {x : ByteArray × ByteArray} (hx : ps[i]? = some x) :
    ∃ b off, A = some ⟨b, off, none⟩ ∧ b < w.heap.size ∧ w.cell? ⟨b, off + i * 2, none⟩ = some (.string x.1) ∧ w.cell? ⟨b, off + i * 2 + 1, none⟩ = some (.string x.2) := by
  obtain ⟨h1, h2⟩ := flt_get ps i x hx
  rcases h with h | ⟨b, off, e, hlt, hc⟩
  · rw [h] at h1; simp at h1
  · exact ⟨b, off, e, hlt, hc _ _ h1, by have := hc _ _ h2; simpa [Nat.add_assoc] using this⟩
theorem rd_take {w : World} {A : Option Addr} {l : List ByteArray} (h : RdS w A l) (k : Nat) : RdS w A (l.take k) := by
  rcases h with h | ⟨b, off, e, hlt, hc⟩
  · have : l = [] := List.map_eq_nil_iff.1 h
    subst this
    exact .inl (by simp)
  · refine .inr ⟨b, off, e, hlt, fun j u hj => hc j u ?_⟩
    rw [List.map_take, List.getElem?_take] at hj
    split at hj
    · exact hj
    · cases hj
theorem pcs_get (p : List ByteArray) (f t : ByteArray) {k i : Nat} (h : i < k) : (pcs p f t k)[i]? = some (pF p f i, pT p t i) := by
  unfold pcs
  rw [List.getElem?_map, List.getElem?_range h]
  rfl
def cntK (H : Bool) (d k : Nat) : Nat := if H = true ∧ d < k then 1 else 0
def atK (H : Bool) (d k : Nat) : Nat := if H = true ∧ d < k then d else 0
theorem cnt_hit (d : Nat) : cntK true d d = 0 ∧ cntK true d (d + 1) = 1 ∧ atK true d (d + 1) = d := by simp [cntK, atK]
theorem cnt_miss {H : Bool} {d k : Nat} (h : (H && (d == k)) = false) : cntK H d (k + 1) = cntK H d k ∧ atK H d (k + 1) = atK H d k := by
  cases H
  · simp [cntK, atK]
  · have : d ≠ k := by simpa using h
    have e : d < k + 1 ↔ d < k := by omega
    simp [cntK, atK, e]

set_option maxRecDepth 10000 in
set_option maxHeartbeats 4000000 in
theorem parts_law (A : Option Addr) (n c : Nat) (l : List ByteArray) (f t s : ByteArray) (w : World) (hl : l.length = n) (hc : n ≤ c) (hm : c ≤ maxLen) (hr : RdS w A l) :
    Calls Try.prog 4 #[.slice A n c, .agg #[.string f, .string t], .string s] w fun e w' => e = .returned (.bool true) ∧ Below w.heap.size w w' := by
  have B0 : Hid (Below w.heap.size w (w.alloc (rgc f t))) := Lib.hid (by go_grown)
  obtain ⟨b0, b1⟩ := rgcell (w := w) f t
  obtain ⟨q, hq⟩ : ∃ q, q = l.take 30 := ⟨_, rfl⟩
  obtain ⟨m, hmq⟩ : ∃ m, q.length = m := ⟨_, rfl⟩
  have hmn : m = min n 30 := by rw [← hmq, hq, List.length_take, hl, Nat.min_comm]
  have hm30 : m ≤ 30 := by omega
  have hrq : RdS w A q := by rw [hq]; exact rd_take hr 30
  have FW : Hid (∀ W, Calls Try.prog 6 #[.slice A n c] W fun e w' => e = .returned (.slice A m c) ∧ Below W.heap.size W w') := Lib.hid (fun W => by rw [hmn]; exact few_any A n c W hc (by unfold maxLen at hm; omega))
  have RR := Lib.hid (fun W (hb : Below w.heap.size w W) => rright_all A q m c f t W hmq (by omega) (Rd.later hrq hb))
  have SP := Lib.hid (fun W (hb : Below w.heap.size w W) => spans_any A q m c f t W hmq (by omega) (Rd.later hrq hb))
  have PA := Lib.hid (fun W (hb : Below w.heap.size w W) => part_any A q m c s W hmq (by omega) (Rd.later hrq hb))
  have RP := Lib.hid (fun W (hb : Below w.heap.size w W) => rpart_any A q m c s W hmq (by omega) (Rd.later hrq hb))
  have HP : Hid (rightB q f t = true → ∀ i, i ≤ m → has (pF q f i) (pT q t i) s = (has f t s && (prt q s == i))) := Lib.hid (fun h i hi => has_piece h s i (by omega))
  have HD := Lib.hid (show prt q s ≤ m by rw [← hmq]; exact prt_le q s)
  have PS : Hid (rightB q f t = true → parts q f t = pcs q f t (m + 1)) := Lib.hid (fun h => by unfold parts many; rw [if_pos h, hmq]; rfl)
  clear hr hl hc hm hq hmq hmn hrq
  cases hv : rightB q f t
  · rw [hv] at RR
    clear hv
    go_enter Try.func4, Try.ntmps4
    go_wp2_with (first
      | (go_at_call 6; ((with_reducible refine (FW.out _).mono ?_); rintro e w1 ⟨rfl, e1⟩; have B1 := Lib.hid (B0.out.trans (e1.mono B0.out.size)); have c0 := bel_later e1 b0; have c1 := bel_later e1 b1; clear e1))
      | (go_at_call 15; ((with_reducible refine (RR.out _ B1.out).mono ?_); rintro e w2 ⟨rfl, e2⟩; have B2 := Lib.hid (B1.out.trans (e2.mono B1.out.size)); clear e2))
      | (go_at_call 12; ((with_reducible refine (live_any _).mono ?_); rintro e w3 ⟨rfl, e3⟩; have B3 := Lib.hid (B2.out.trans (e3.mono B2.out.size)); clear e3))
      | fail)
    exact bodyPost_ret (v := .bool true) (by simp [results, Try.results4, go_sem]) rfl ⟨rfl, B3.out⟩
  · have HPR := Lib.hid (HP.out hv)
    have PSR := Lib.hid (PS.out hv)
    rw [hv] at RR
    clear hv HP PS
    obtain ⟨d, hd⟩ : ∃ d, d = prt q s := ⟨_, rfl⟩
    obtain ⟨H, hH⟩ : ∃ H, H = has f t s := ⟨_, rfl⟩
    rw [← hd] at HPR HD PA RP
    have RH := Lib.hid (fun W => rholds_any f t s W)
    rw [← hH] at HPR RH
    clear hd hH
    go_enter Try.func4, Try.ntmps4
    go_wp2_with (first
      | (go_at_call 6; ((with_reducible refine (FW.out _).mono ?_); rintro e w1 ⟨rfl, e1⟩; have B1 := Lib.hid (B0.out.trans (e1.mono B0.out.size)); have c0 := bel_later e1 b0; have c1 := bel_later e1 b1; clear e1))
      | (go_at_call 15; ((with_reducible refine (RR.out _ B1.out).mono ?_); rintro e w2 ⟨rfl, e2⟩; have B2 := Lib.hid (B1.out.trans (e2.mono B1.out.size)); have c2 := bel_later e2 c0; have c3 := bel_later e2 c1; clear e2))
      | (go_at_call 8; ((with_reducible refine (SP.out _ B2.out).mono ?_); rintro e w3 ⟨A', cc, rfl, rp, e3⟩; have B3 := Lib.hid (B2.out.trans (e3.mono B2.out.size)); have c4 := Lib.hid (bel_later e3 c2); have c5 := Lib.hid (bel_later e3 c3); rw [PSR.out] at rp; have RPP := Lib.hid rp; rw [PSR.out, pcs_length]; clear e3 rp))
      | fail)
    go_loopw [7, 8, 11] (fun nv av iv wr => ∃ k : Nat, k ≤ m + 1 ∧ iv = .int .i64 k ∧ nv = .int .i64 (cntK H d k : Nat) ∧ av = .int .i64 (atK H d k : Nat) ∧ Below w3.heap.size w3 wr) (fun _ _ i _ => m + 1 - (intOf i).toNat)
    case atStart => exact ⟨0, Nat.zero_le _, rfl, by simp [cntK], by simp [atK], Below.refl _ _⟩
    case round =>
      obtain ⟨k, hk, rfl, rfl, rfl, hbw⟩ := hrel
      have BW := Lib.hid hbw
      have BB := Lib.hid (B3.out.trans (hbw.mono B3.out.size))
      clear hbw
      by_cases h8 : k < m + 1
      · have j0 : (0 : Int) ≤ (k : Int) := by omega
        have j1 : (k : Int) < (m : Int) + 1 := by omega
        have j9 : (k : Int) ≤ 1000 := by omega
        have hps := pcs_get q f t h8
        have hk3 := HPR.out k (by omega)
        obtain ⟨b, off, rfl, hlt, f0, f1⟩ := rdp_get RPP.out hps
        have g0 : wr.cell? ⟨b, off + k * 2, none⟩ = some (.string (pF q f k)) := (bel_cell BW.out hlt).trans f0
        have g1 : wr.cell? ⟨b, off + k * 2 + 1, none⟩ = some (.string (pT q t k)) := (bel_cell BW.out hlt).trans f1
        have HO := Lib.hid (rholds_any (pF q f k) (pT q t k) s wr)
        rw [hk3] at HO
        generalize pF q f k = x at g0 HO
        generalize pT q t k = y at g1 HO
        clear f0 f1 hps hk3
        cases hh : (H && (d == k))
        · obtain ⟨m1, m2⟩ := cnt_miss hh
          rw [hh] at HO
          have M1 := Lib.hid m1
          have M2 := Lib.hid m2
          clear m1 m2 hh
          generalize hcn : cntK H d k = cn at M1
          generalize han : atK H d k = an at M2
          clear hcn han
          go_wp2_with (go_at_call 16; ((with_reducible refine HO.out.mono ?_); rintro e w4 ⟨rfl, e4⟩; have E4 := Lib.hid (BW.out.trans (e4.mono BW.out.size)); clear e4))
          go_roundw
          case rel => exact ⟨k + 1, by omega, by simp, by rw [M1.out], by rw [M2.out], E4.out⟩
          case measure => simp [intOf]; omega
        · obtain ⟨hH, hd⟩ : H = true ∧ d = k := by simpa using hh
          obtain ⟨m0, m1, m2⟩ := cnt_hit d
          rw [hh] at HO
          subst hH hd
          have M1 := Lib.hid m1
          have M2 := Lib.hid m2
          rw [m0]
          clear m0 m1 m2 hh
          go_wp2_with (go_at_call 16; ((with_reducible refine HO.out.mono ?_); rintro e w4 ⟨rfl, e4⟩; have E4 := Lib.hid (BW.out.trans (e4.mono BW.out.size)); clear e4))
          go_roundw
          case rel => exact ⟨d + 1, by omega, by simp, by rw [M1.out]; rfl, by rw [M2.out], E4.out⟩
          case measure => simp [intOf]; omega
      · obtain rfl : k = m + 1 := by omega
        have d4 := (bel_cell BW.out (World.block_lt_of_cell? w3 _ c4.out)).trans c4.out
        have d5 := (bel_cell BW.out (World.block_lt_of_cell? w3 _ c5.out)).trans c5.out
        have hdm := HD.out
        cases H
        · have e1 : ((cntK false d (m + 1) : Nat) : Int) = 0 := by simp [cntK]
          rw [e1]
          clear e1 h8 hdm
          generalize atK false d (m + 1) = an
          go_wp2_with (first
            | (go_at_call 17; ((with_reducible refine (PA.out _ BB.out).mono ?_); rintro e w4 ⟨rfl, e4⟩; have B4 := Lib.hid (BB.out.trans (e4.mono BB.out.size)); have d6 := bel_later e4 d4; have d7 := bel_later e4 d5; clear e4 BB))
            | (go_at_call 18; ((with_reducible refine (RP.out _ B4.out).mono ?_); rintro e w5 ⟨rfl, e5⟩; have B5 := Lib.hid (B4.out.trans (e5.mono B4.out.size)); have d8 := bel_later e5 d6; have d9 := bel_later e5 d7; clear e5))
            | (go_at_call 16; ((with_reducible refine (RH.out _).mono ?_); rintro e w6 ⟨rfl, e6⟩; have B6 := Lib.hid (B5.out.trans (e6.mono B5.out.size)); clear e6))
            | (go_at_call 12; ((with_reducible refine (live_any _).mono ?_); rintro e w7 ⟨rfl, e7⟩; have B7 := Lib.hid (B6.out.trans (e7.mono B6.out.size)); clear e7))
            | fail)
          exact bodyPost_ret (v := .bool true) (by simp [results, Try.results4, go_sem]) rfl ⟨rfl, B7.out⟩
        · have e1 : ((cntK true d (m + 1) : Nat) : Int) = 1 := by unfold cntK; rw [if_pos ⟨rfl, by omega⟩]; rfl
          have e2 : atK true d (m + 1) = d := by unfold atK; rw [if_pos ⟨rfl, by omega⟩]
          rw [e1, e2]
          clear e1 e2 h8 hdm
          go_wp2_with (first
            | (go_at_call 17; ((with_reducible refine (PA.out _ BB.out).mono ?_); rintro e w4 ⟨rfl, e4⟩; have B4 := Lib.hid (BB.out.trans (e4.mono BB.out.size)); have d6 := bel_later e4 d4; have d7 := bel_later e4 d5; clear e4 BB))
            | (go_at_call 18; ((with_reducible refine (RP.out _ B4.out).mono ?_); rintro e w5 ⟨rfl, e5⟩; have B5 := Lib.hid (B4.out.trans (e5.mono B4.out.size)); have d8 := bel_later e5 d6; have d9 := bel_later e5 d7; clear e5))
            | (go_at_call 16; ((with_reducible refine (RH.out _).mono ?_); rintro e w6 ⟨rfl, e6⟩; have B6 := Lib.hid (B5.out.trans (e6.mono B5.out.size)); clear e6))
            | (go_at_call 12; ((with_reducible refine (live_any _).mono ?_); rintro e w7 ⟨rfl, e7⟩; have B7 := Lib.hid (B6.out.trans (e7.mono B6.out.size)); clear e7))
            | (go_at_call 17; ((with_reducible refine (PA.out _ B7.out).mono ?_); rintro e w8 ⟨rfl, e8⟩; have B8 := Lib.hid (B7.out.trans (e8.mono B7.out.size)); clear e8))
            | fail)
          exact bodyPost_ret (v := .bool true) (by simp [results, Try.results4, go_sem]) rfl ⟨rfl, B8.out⟩
end Go.Proofs.Ytngldfheneegcaa
