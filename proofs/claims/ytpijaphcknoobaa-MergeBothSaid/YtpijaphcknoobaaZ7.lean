/- The law MergeMerges: what is merged is in order, and is all that there was. -/
import Derived.Test.YtpijaphcknoobaaZ6
namespace Go.Proofs.Ytpijaphcknoobaa
set_option linter.unusedSimpArgs false
open Go.RowKit Go.Shelf
set_option linter.unusedVariables false

/-- A list of N things is handed back. -/
def RowN (w : World) (xs : List TT) (N : Nat) (e : Ending) (W : World) : Prop := ∃ A c, e = .returned (.slice A N c) ∧ RdT W A xs ∧ Below w.heap.size w W
theorem rown_of {w : World} {xs : List TT} {N : Nat} (h : xs.length = N) {e : Ending} {W : World} (hp : RowPost w xs e W) : RowN w xs N e W := by subst h; exact hp
theorem rown_of2 {w : World} {xs : List TT} {N : Nat} (h : xs.length = N) {e : Ending} {W : World} (hp : NewRow w xs e W) : RowN w xs N e W := by subst h; exact hp
theorem rown_of3 {w : World} {xs : List TT} {N : Nat} (h : xs.length = N) {e : Ending} {W : World} (hp : NewRowS w xs e W) : RowN w xs N e W := by
  subst h
  obtain ⟨g, c, h1, h2, _, _, h5⟩ := hp
  exact ⟨_, c, h1, h2, h5⟩
set_option maxRecDepth 100000 in
set_option maxHeartbeats 4000000 in
theorem merges_any (A : Option Addr) (len cap : Nat) (vs : List Value) (rs : List (List TT)) (W : World) (hl : rs.length = len) (hR : Rd W W.heap.size A vs) (hS : Sls W vs rs) :
    Calls Try.prog 3 #[.slice A len cap] W fun e W' => e = .returned (.bool true) ∧ Below W.heap.size W W' := by
  obtain ⟨qs, hqs⟩ : ∃ qs, qs = fews rs (min len 8) := ⟨_, rfl⟩
  have HLS := Lib.hid (lists_any A len cap vs rs W hl hR hS)
  rw [← hqs] at HLS
  have h20 : ∀ l ∈ qs, l.length ≤ 20 := by rw [hqs]; exact fews_20 _ _
  obtain ⟨M, hM⟩ : ∃ M, qs.length = M := ⟨_, rfl⟩
  have hM8 : M ≤ 8 := by rw [← hM, hqs, fews_len (by omega)]; omega
  obtain ⟨X, hX⟩ : ∃ X, X = sortL [] qs.flatten := ⟨_, rfl⟩
  obtain ⟨N, hN⟩ : ∃ N, X.length = N := ⟨_, rfl⟩
  have hNf : qs.flatten.length = N := by rw [← hN, hX, sort_len]; simp
  have hN160 : N ≤ 160 := by
    have h := flat_len8 h20 qs.length
    rw [List.take_of_length_le (Nat.le_refl _), hNf, hM] at h
    omega
  obtain ⟨O, hOe⟩ : ∃ O, O = onceG none X := ⟨_, rfl⟩
  obtain ⟨P, hP⟩ : ∃ P, O.length = P := ⟨_, rfl⟩
  have hP160 : P ≤ 160 := by rw [← hP, hOe]; exact Nat.le_trans (once_len _ _) (by omega)
  have H20 := Lib.hid h20
  have HM := Lib.hid hM
  have HX := Lib.hid hX
  have HN := Lib.hid hN
  have HNF := Lib.hid hNf
  have HO := Lib.hid hOe
  have HP := Lib.hid hP
  have E33 := Lib.hid (enters_of Try.func33 (by kernel_rfl) rfl)
  have E35 := Lib.hid (enters_of Try.func35 (by kernel_rfl) rfl)
  have XS : Hid (Srt X) := Lib.hid (by rw [hX]; exact sort_srt _ (by simp [Srt]))
  clear h20 hM hX hN hNf hOe hP hl hR hS hqs
  go_enter Try.func3, Try.ntmps3
  go_wp2_with fail
  refine (HLS.out).mono ?_
  rintro e w1 ⟨g, cc, b, us, rfl, hb, hr1, hs1, hb1⟩
  rw [HM.out]
  have HB := Lib.hid hb
  have R1 := Lib.hid hr1
  have S1 := Lib.hid hs1
  have B1 := Lib.hid hb1
  clear hb hr1 hs1 hb1 HLS
  cases b with
  | false =>
    have LV := Lib.hid (live_any w1)
    go_wp2_with fail
    refine (LV.out).mono ?_
    rintro e w2 ⟨rfl, hb2⟩
    have B2 := Lib.hid (bel_trans B1.out hb2)
    clear hb2 LV
    go_wp2
    go_ret
    exact ⟨rfl, B2.out⟩
  | true =>
    have HSRT : Hid (∀ l ∈ qs, Srt l) := Lib.hid (HB.out.1 rfl)
    have HMG : Hid (∀ U, Below w1.heap.size w1 U → Calls Try.prog 10 #[.func (.func 11) #[] #[], .slice (some ⟨g, 0, none⟩) M cc] U (SeqBack Try.prog 33 U X)) := Lib.hid (fun U hU => by
      rw [HX.out]; exact merge_any ⟨g, 0, none⟩ M cc qs us HM.out (by omega) U (Rd.later R1.out hU) (S1.out.later hU) HSRT.out)
    go_wp2_with fail
    refine (HMG.out _ (Below.refl _ _)).mono ?_
    rintro e w2 ⟨lb2, rfl, hb2, hs2⟩
    have B2 := Lib.hid hb2
    have L2 := Lib.hid ((list_any E33.out hs2 (Below.refl _ _) (by have := HN.out; omega)).mono (fun e W h => rown_of HN.out h))
    clear hb2 hs2
    go_wp2_with fail
    refine (L2.out).mono ?_
    rintro e w3 ⟨A3, c3, rfl, hr3, hb3⟩
    have B3 := Lib.hid (bel_trans B2.out hb3)
    have R3 := Lib.hid hr3
    clear hb3 hr3 L2
    go_wp2_with fail
    go_loopw [5, 6] (fun nv iv wr => ∃ k : Nat, k ≤ M ∧ iv = .int .i64 k ∧ nv = .int .i64 ((qs.take k).flatten.length : Nat) ∧ Below w3.heap.size w3 wr) (fun _ i _ => M - (intOf i).toNat)
    case atStart => exact ⟨0, Nat.zero_le _, rfl, rfl, Below.refl _ _⟩
    case round =>
      obtain ⟨k, hk, rfl, rfl, hbr⟩ := hrel
      have BR := Lib.hid hbr
      have HFL := Lib.hid (flat_len8 H20.out k)
      obtain ⟨S, hS⟩ : ∃ S, (qs.take k).flatten.length = S := ⟨_, rfl⟩
      rw [hS]
      have HS := Lib.hid hS
      have s160 : S ≤ 160 := by rw [← hS]; exact Nat.le_trans HFL.out (by omega)
      clear hbr hS
      by_cases h8 : k < M
      · have q1 : (k : Int) < (M : Int) := by omega
        have q0 : (0 : Int) ≤ (k : Int) := by omega
        have q9 : (k : Int) ≤ 8 := by omega
        have s9 : (S : Int) ≤ 160 := by omega
        obtain ⟨ys, hys⟩ : ∃ ys, qs[k]? = some ys := ⟨_, List.getElem?_eq_getElem (by rw [HM.out]; omega)⟩
        obtain ⟨u, hu, Ay, cy, rfl, hcy1, hcy2, hry⟩ := S1.out.2 k ys hys
        obtain ⟨bA, oA, e2, hAl, gA⟩ := Rd.get R1.out hu
        cases e2
        have y20 : (ys.length : Int) ≤ 20 := by have := H20.out _ (List.mem_of_getElem? hys); omega
        have g0 : wr.cell? ⟨g, 0 + k, none⟩ = some (.slice Ay ys.length cy) := (bel_cell (bel_trans B3.out BR.out) hAl).trans gA
        rw [Nat.zero_add] at g0
        have HSN := Lib.hid (flat_snoc hys)
        clear hys hu hry gA hcy1 hcy2 hAl
        go_wp2
        refine ⟨⟨k + 1, by omega, by simp, ?_, BR.out⟩, by simp [intOf]; omega⟩
        rw [HSN.out, List.length_append, HS.out]; simp
      · have q1 : ¬ (k : Int) < (M : Int) := by omega
        have hSN : S = N := by
          have h := HS.out
          rw [List.take_of_length_le (by rw [HM.out]; omega), HNF.out] at h
          exact h.symm
        subst hSN
        have BW := Lib.hid (bel_trans B3.out BR.out)
        go_wp2_with fail
        refine (HMG.out _ BW.out).mono ?_
        rintro e w4 ⟨lb4, rfl, hb4, hs4⟩
        have C4 := Lib.hid (bel_trans BR.out hb4)
        have B4 := Lib.hid (bel_trans BW.out hb4)
        have O4 := Lib.hid (once_any E33.out hs4 (Below.refl _ _))
        clear hb4 hs4
        go_wp2_with fail
        refine (O4.out).mono ?_
        rintro e w5 ⟨lb5, rfl, hb5, hs5⟩
        have C5 := Lib.hid (bel_trans C4.out hb5)
        have B5 := Lib.hid (bel_trans B4.out hb5)
        rw [← HO.out] at hs5
        have L5 := Lib.hid ((list_any E35.out hs5 (Below.refl _ _) (by have := HP.out; omega)).mono (fun e W h => rown_of HP.out h))
        clear hb5 hs5 O4
        go_wp2_with fail
        refine (L5.out).mono ?_
        rintro e w6 ⟨A6, c6, rfl, hr6, hb6⟩
        have C6 := Lib.hid (bel_trans C5.out hb6)
        have B6 := Lib.hid (bel_trans B5.out hb6)
        have LV := Lib.hid (live_any w6)
        have R6 := Lib.hid hr6
        clear hb6 hr6 L5
        go_wp2_with fail
        refine (LV.out).mono ?_
        rintro e w7 ⟨rfl, hb7⟩
        have C7 := Lib.hid (bel_trans C6.out hb7)
        have B7 := Lib.hid (bel_trans B6.out hb7)
        have R7 := Lib.hid (Rd.later R6.out hb7)
        have RM : Hid (Calls Try.prog 14 #[.slice (some ⟨g, 0, none⟩) M cc] w7 (RowN w7 X S)) := Lib.hid ((rmerge_any (some ⟨g, 0, none⟩) M cc us qs w7 HM.out hM8 H20.out (Rd.later R1.out (bel_trans B6.out hb7)) (S1.out.later (bel_trans B6.out hb7))).mono (fun e W h => by
          rw [← HX.out] at h
          exact rown_of3 HN.out h))
        clear hb7 LV
        go_wp2_with fail
        refine (RM.out).mono ?_
        rintro e w8 ⟨A8, c8, rfl, hr8, hb8⟩
        have C8 := Lib.hid (bel_trans C7.out hb8)
        have B8 := Lib.hid (bel_trans B7.out hb8)
        have R8 := Lib.hid (Rd.later R7.out hb8)
        have SM := Lib.hid (same_eq A3 A8 X S S c3 c8 w8 HN.out rfl (by omega) (Rd.later R3.out C8.out) hr8)
        clear hr8 hb8 RM R7
        go_wp2_with fail
        refine (SM.out).mono ?_
        rintro e w9 ⟨rfl, hb9⟩
        have C9 := Lib.hid (bel_trans C8.out hb9)
        have B9 := Lib.hid (bel_trans B8.out hb9)
        have R9 := Lib.hid (Rd.later R8.out hb9)
        have SO := Lib.hid (sorted_any A3 X S c3 w9 HN.out (by omega) (Rd.later R3.out C9.out))
        clear hb9 SM R8
        go_wp2_with fail
        refine (SO.out).mono ?_
        rintro e w10 ⟨b10, rfl, hb10, hbb10⟩
        obtain rfl : b10 = true := hb10.2 XS.out
        have C10 := Lib.hid (bel_trans C9.out hbb10)
        have B10 := Lib.hid (bel_trans B9.out hbb10)
        have R10 := Lib.hid (Rd.later R9.out hbb10)
        have RO : Hid (Calls Try.prog 16 #[.slice A3 S c3] w10 (RowN w10 O P)) := Lib.hid ((ronce_any A3 S c3 X w10 HN.out (by omega) (Rd.later R3.out C10.out)).mono (fun e W h => by
          rw [← HO.out] at h
          exact rown_of2 HP.out h))
        clear hb10 hbb10 SO R9
        go_wp2_with fail
        refine (RO.out).mono ?_
        rintro e w11 ⟨A11, c11, rfl, hr11, hb11⟩
        have B11 := Lib.hid (bel_trans B10.out hb11)
        have SM := Lib.hid (same_eq A6 A11 O P P c6 c11 w11 HP.out rfl (by omega) (Rd.later R10.out hb11) hr11)
        clear hr11 hb11 RO
        go_wp2_with fail
        refine (SM.out).mono ?_
        rintro e w12 ⟨rfl, hb12⟩
        have B12 := Lib.hid (bel_trans B1.out (bel_trans B11.out hb12))
        clear hb12 SM
        go_wp2
        go_ret
        exact ⟨rfl, B12.out⟩
end Go.Proofs.Ytpijaphcknoobaa
