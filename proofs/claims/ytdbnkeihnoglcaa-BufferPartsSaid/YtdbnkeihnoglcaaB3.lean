/- The law BufferParts answers true. -/
import Derived.Test.YtdbnkeihnoglcaaB2
import Derived.Test.YtdbnkeihnoglcaaV2
namespace Go.Proofs.Ytdbnkeihnoglcaa
set_option linter.unusedSimpArgs false
open Go.RowKit Go.Maps
set_option linter.unusedVariables false
theorem zm_dl : DlOk zM := by refine ⟨?_, ?_⟩ <;> decide
theorem clip_dl {m : MG} (hm : DlOk m) (a b : ByteArray) : DlOk (clipM m a b).1 := by
  unfold clipM
  repeat' split
  all_goals first | exact hm | exact zm_dl
theorem rest_dl {m : MG} (hm : DlOk m) (a b : ByteArray) : ∀ x ∈ restM m a b, DlOk x := by
  intro x hx
  unfold restM restQ at hx
  split at hx
  · split at hx
    · cases hx
    · rw [List.mem_singleton.1 hx]; exact hm
  · split at hx
    · split at hx
      · rcases List.mem_append.1 hx with hx | hx
        · split at hx
          · rw [List.mem_singleton.1 hx]; exact hm
          · cases hx
        · split at hx
          · rw [List.mem_singleton.1 hx]; exact hm
          · cases hx
      · rw [List.mem_singleton.1 hx]; exact hm
    · cases hx
theorem forL_dl {xs : List MG} (ho : ∀ x ∈ xs, DlOk x) (a b : ByteArray) : ∀ x ∈ forL a b xs, DlOk x := by
  intro x hx
  obtain ⟨m, hm, hx⟩ := List.mem_flatMap.1 hx
  split at hx
  · rw [List.mem_singleton.1 hx]; exact clip_dl (ho m hm) a b
  · cases hx
theorem resL_dl {xs : List MG} (ho : ∀ x ∈ xs, DlOk x) (a b : ByteArray) : ∀ x ∈ resL a b xs, DlOk x := by
  intro x hx
  obtain ⟨m, hm, hx⟩ := List.mem_flatMap.1 hx
  exact rest_dl (ho m hm) a b x hx
theorem at_none (s : ByteArray) (A : Option Addr) (n c : Nat) (xs : List MG) (w : World) (hl : xs.length = n) (hn : n ≤ 1000) (hA : EG.Rd w A xs) (ho : OkA xs) (he : atL s xs = []) :
    Calls Try.prog 15 #[.slice A n c, .string s] w fun r w' => (∃ A' c', r = .returned (.slice A' 0 c')) ∧ Below w.heap.size w w' := by
  refine (at_any s A n c xs w hl hn hA ho).mono ?_
  rintro e w1 ⟨⟨A1, c1, rfl, ra⟩, b1⟩
  rw [he]
  exact ⟨⟨_, _, rfl⟩, b1⟩
set_option maxRecDepth 100000 in
set_option maxHeartbeats 8000000 in
theorem parts_few (A : Option Addr) (m cap : Nat) (ys : List MG) (r0 r1 s v : ByteArray) (is : Bool) (n : Nat) (w : World) (hmn : min n 30 = m) (hnc : n ≤ cap) (hc : cap ≤ 9223372036854775807) (hl : ys.length = m) (hA : EG.Rd w A ys) (ho : OkA ys) (hd : ∀ x ∈ ys, DlOk x) (s0 : SzOk r0) (s1 : SzOk r1) :
    Calls Try.prog 6 #[.slice A n cap, .agg #[.string r0, .string r1], .string s, .string v, .bool is] w fun r w' => r = .returned (.bool true) ∧ Below w.heap.size w w' := by
  have hm30 : m ≤ 30 := by have := min_le30 n; omega
  have hm : m ≤ 1000 := by omega
  have HL := Lib.hid hl
  have HO := Lib.hid ho
  have HA := Lib.hid (fun W (hW : Below w.heap.size w W) => hA.later hW)
  have BB := Lib.hid (alb w (rgc r0 r1))
  have ZZ := Lib.hid (heap_alloc_new w (rgc r0 r1))
  have AF := Lib.hid (few_any A n cap (w.alloc (rgc r0 r1)) hnc hc)
  rw [hmn] at AF
  obtain ⟨q, hq⟩ : ∃ q, q = rightB ys := ⟨_, rfl⟩
  have AQ : Hid (∀ W, Below w.heap.size w W → Calls Try.prog 10 #[.slice A m cap] W fun r w' => r = .returned (.bool q) ∧ Below W.heap.size W w') := Lib.hid (fun W hW => by rw [hq]; exact rright_all A m cap ys W HL.out hm (HA.out W hW) HO.out)
  obtain ⟨d0, d1, -, -⟩ := has_two ZZ.out
  cases q
  · clear hq s0 s1 hl hA ho hmn hnc hc hd
    go_enter Try.func6, Try.ntmps6
    go_wp2_with (first
      | (go_at_call 8; ((with_reducible refine AF.out.mono ?_); rintro e w1 ⟨rfl, rfl⟩))
      | (go_at_call 10; ((with_reducible refine (AQ.out _ BB.out).mono ?_); rintro e vv ⟨rfl, bb⟩; replace BB := Lib.hid (bel_trans BB.out bb); replace ZZ := Lib.hid (keep_bel bb ZZ.out); clear bb d0 d1; obtain ⟨d0, d1, -, -⟩ := has_two ZZ.out))
      | (go_at_call 11; ((with_reducible refine (live_true _).mono ?_); rintro e vv ⟨rfl, bb⟩; replace BB := Lib.hid (bel_trans BB.out bb); replace ZZ := Lib.hid (keep_bel bb ZZ.out); clear bb d0 d1; obtain ⟨d0, d1, -, -⟩ := has_two ZZ.out))
      | fail)
    go_ret
    exact ⟨rfl, BB.out⟩
  · have AT := Lib.hid (fun W (hW : Below w.heap.size w W) => take_any r0 r1 A m cap ys W HL.out hm (HA.out W hW) HO.out)
    have AV := Lib.hid (fun W (hW : Below w.heap.size w W) => value_any A m cap ys s v is W HL.out hm (HA.out W hW) hd)
    have HN1 := Lib.hid (show (forL r0 r1 ys).length ≤ 1000 by have := forL_len r0 r1 ys; rw [HL.out] at this; omega)
    have HN2 := Lib.hid (show (resL r0 r1 ys).length ≤ 1000 by have := resL_len r0 r1 ys; rw [HL.out] at this; omega)
    have AV2 := Lib.hid (fun (X : Option Addr) (c : Nat) (W : World) (h : EG.Rd W X (forL r0 r1 ys)) => value_any X _ c (forL r0 r1 ys) s v is W rfl HN1.out h (forL_dl hd r0 r1))
    have AV3 := Lib.hid (fun (X : Option Addr) (c : Nat) (W : World) (h : EG.Rd W X (resL r0 r1 ys)) => value_any X _ c (resL r0 r1 ys) s v is W rfl HN2.out h (resL_dl hd r0 r1))
    have AI := Lib.hid (fun (hin : (sb r0 r1 && has r0 r1 s) = true) (X : Option Addr) (c : Nat) (W : World) (h : EG.Rd W X (resL r0 r1 ys)) => at_none s X _ c (resL r0 r1 ys) W rfl HN2.out h (resL_ok ho s0 s1) (parts_in hq.symm hin (startQ v is)).2)
    have AO := Lib.hid (fun (hin : (sb r0 r1 && has r0 r1 s) = false) (X : Option Addr) (c : Nat) (W : World) (h : EG.Rd W X (forL r0 r1 ys)) => at_none s X _ c (forL r0 r1 ys) W rfl HN1.out h (forL_ok ho s0 s1) (parts_out hq.symm hin (startQ v is)).2)
    have HI := Lib.hid (fun (hin : (sb r0 r1 && has r0 r1 s) = true) => (parts_in hq.symm hin (startQ v is)).1)
    have HU := Lib.hid (fun (hin : (sb r0 r1 && has r0 r1 s) = false) => (parts_out hq.symm hin (startQ v is)).1)
    clear hq s0 s1 hl hA ho hmn hnc hc hd HN1 HN2
    obtain ⟨L, hL⟩ : ∃ L, forL r0 r1 ys = L := ⟨_, rfl⟩
    obtain ⟨M, hM⟩ : ∃ M, resL r0 r1 ys = M := ⟨_, rfl⟩
    rw [hL] at AT AV2 AO HI
    rw [hM] at AT AV3 AI HU
    clear hL hM
    obtain ⟨⟨y, z⟩, hy⟩ : ∃ y, valL ys s (startQ v is) = y := ⟨_, rfl⟩
    obtain ⟨⟨y2, z2⟩, hy2⟩ : ∃ y, valL L s (startQ v is) = y := ⟨_, rfl⟩
    obtain ⟨⟨y3, z3⟩, hy3⟩ : ∃ y, valL M s (startQ v is) = y := ⟨_, rfl⟩
    rw [hy] at AV HI HU
    rw [hy2] at AV2 HI
    rw [hy3] at AV3 HU
    clear hy hy2 hy3
    obtain ⟨a, ha⟩ : ∃ a, L.length = a := ⟨_, rfl⟩
    obtain ⟨b, hb⟩ : ∃ b, M.length = b := ⟨_, rfl⟩
    rw [ha] at AT AV2 AO
    rw [hb] at AT AV3 AI
    clear ha hb
    cases hs : sb r0 r1
    · replace AO := Lib.hid (AO.out (by rw [hs]; rfl))
      have he := HU.out (by rw [hs]; rfl)
      injection he with h1 h2
      subst h1 h2
      clear HI HU AI
      go_enter Try.func6, Try.ntmps6
      go_wp2_with (first
        | (go_at_call 8; ((with_reducible refine AF.out.mono ?_); rintro e w1 ⟨rfl, rfl⟩))
        | (go_at_call 10; ((with_reducible refine (AQ.out _ BB.out).mono ?_); rintro e vv ⟨rfl, bb⟩; replace BB := Lib.hid (bel_trans BB.out bb); replace ZZ := Lib.hid (keep_bel bb ZZ.out); clear bb d0 d1; obtain ⟨d0, d1, -, -⟩ := has_two ZZ.out))
        | (go_at_call 23; ((with_reducible refine (AT.out _ BB.out).mono ?_); rintro e vv ⟨⟨A3, q3, A4, q4, rfl, r3, r4⟩, bb⟩; replace BB := Lib.hid (bel_trans BB.out bb); replace ZZ := Lib.hid (keep_bel bb ZZ.out); have R3 := Lib.hid r3; have R4 := Lib.hid r4; clear r3 r4; clear bb d0 d1; obtain ⟨d0, d1, -, -⟩ := has_two ZZ.out))
        | (go_at_call 27; ((with_reducible refine (AV.out _ BB.out).mono ?_); rintro e vv ⟨rfl, bb⟩; replace BB := Lib.hid (bel_trans BB.out bb); replace ZZ := Lib.hid (keep_bel bb ZZ.out); replace R3 := Lib.hid (R3.out.later bb); replace R4 := Lib.hid (R4.out.later bb); clear bb d0 d1; obtain ⟨d0, d1, -, -⟩ := has_two ZZ.out))
        | (go_at_call 27; ((with_reducible refine (AV2.out A3 q3 _ R3.out).mono ?_); rintro e vv ⟨rfl, bb⟩; replace BB := Lib.hid (bel_trans BB.out bb); replace ZZ := Lib.hid (keep_bel bb ZZ.out); replace R3 := Lib.hid (R3.out.later bb); replace R4 := Lib.hid (R4.out.later bb); clear bb d0 d1; obtain ⟨d0, d1, -, -⟩ := has_two ZZ.out))
        | (go_at_call 27; ((with_reducible refine (AV3.out A4 q4 _ R4.out).mono ?_); rintro e vv ⟨rfl, bb⟩; replace BB := Lib.hid (bel_trans BB.out bb); replace ZZ := Lib.hid (keep_bel bb ZZ.out); replace R3 := Lib.hid (R3.out.later bb); replace R4 := Lib.hid (R4.out.later bb); clear bb d0 d1; obtain ⟨d0, d1, -, -⟩ := has_two ZZ.out))
        | (go_at_call 28; ((with_reducible refine (rright_any r0 r1 _).mono ?_); rintro e vv ⟨rfl, bb⟩; replace BB := Lib.hid (bel_trans BB.out bb); replace ZZ := Lib.hid (keep_bel bb ZZ.out); replace R3 := Lib.hid (R3.out.later bb); replace R4 := Lib.hid (R4.out.later bb); rw [hs]; clear bb d0 d1; obtain ⟨d0, d1, -, -⟩ := has_two ZZ.out))
        | (go_at_call 29; ((with_reducible refine (rholds_any r0 r1 s _).mono ?_); rintro e vv ⟨rfl, bb⟩; replace BB := Lib.hid (bel_trans BB.out bb); replace ZZ := Lib.hid (keep_bel bb ZZ.out); replace R3 := Lib.hid (R3.out.later bb); replace R4 := Lib.hid (R4.out.later bb); rw [hh]; clear bb d0 d1; obtain ⟨d0, d1, -, -⟩ := has_two ZZ.out))
        | (go_at_call 11; ((with_reducible refine (live_true _).mono ?_); rintro e vv ⟨rfl, bb⟩; replace BB := Lib.hid (bel_trans BB.out bb); replace ZZ := Lib.hid (keep_bel bb ZZ.out); replace R3 := Lib.hid (R3.out.later bb); replace R4 := Lib.hid (R4.out.later bb); clear bb d0 d1; obtain ⟨d0, d1, -, -⟩ := has_two ZZ.out))
        | (go_at_call 15; ((with_reducible refine (AO.out A3 q3 _ R3.out).mono ?_); rintro e vv ⟨⟨A6, q6, rfl⟩, bb⟩; replace BB := Lib.hid (bel_trans BB.out bb); replace ZZ := Lib.hid (keep_bel bb ZZ.out); replace R3 := Lib.hid (R3.out.later bb); replace R4 := Lib.hid (R4.out.later bb); clear bb d0 d1; obtain ⟨d0, d1, -, -⟩ := has_two ZZ.out))
        | fail)
      go_ret
      exact ⟨rfl, BB.out⟩
    · cases hh : has r0 r1 s
      · replace AO := Lib.hid (AO.out (by rw [hs, hh]; rfl))
        have he := HU.out (by rw [hs, hh]; rfl)
        injection he with h1 h2
        subst h1 h2
        clear HI HU AI
        go_enter Try.func6, Try.ntmps6
        go_wp2_with (first
          | (go_at_call 8; ((with_reducible refine AF.out.mono ?_); rintro e w1 ⟨rfl, rfl⟩))
          | (go_at_call 10; ((with_reducible refine (AQ.out _ BB.out).mono ?_); rintro e vv ⟨rfl, bb⟩; replace BB := Lib.hid (bel_trans BB.out bb); replace ZZ := Lib.hid (keep_bel bb ZZ.out); clear bb d0 d1; obtain ⟨d0, d1, -, -⟩ := has_two ZZ.out))
          | (go_at_call 23; ((with_reducible refine (AT.out _ BB.out).mono ?_); rintro e vv ⟨⟨A3, q3, A4, q4, rfl, r3, r4⟩, bb⟩; replace BB := Lib.hid (bel_trans BB.out bb); replace ZZ := Lib.hid (keep_bel bb ZZ.out); have R3 := Lib.hid r3; have R4 := Lib.hid r4; clear r3 r4; clear bb d0 d1; obtain ⟨d0, d1, -, -⟩ := has_two ZZ.out))
          | (go_at_call 27; ((with_reducible refine (AV.out _ BB.out).mono ?_); rintro e vv ⟨rfl, bb⟩; replace BB := Lib.hid (bel_trans BB.out bb); replace ZZ := Lib.hid (keep_bel bb ZZ.out); replace R3 := Lib.hid (R3.out.later bb); replace R4 := Lib.hid (R4.out.later bb); clear bb d0 d1; obtain ⟨d0, d1, -, -⟩ := has_two ZZ.out))
          | (go_at_call 27; ((with_reducible refine (AV2.out A3 q3 _ R3.out).mono ?_); rintro e vv ⟨rfl, bb⟩; replace BB := Lib.hid (bel_trans BB.out bb); replace ZZ := Lib.hid (keep_bel bb ZZ.out); replace R3 := Lib.hid (R3.out.later bb); replace R4 := Lib.hid (R4.out.later bb); clear bb d0 d1; obtain ⟨d0, d1, -, -⟩ := has_two ZZ.out))
          | (go_at_call 27; ((with_reducible refine (AV3.out A4 q4 _ R4.out).mono ?_); rintro e vv ⟨rfl, bb⟩; replace BB := Lib.hid (bel_trans BB.out bb); replace ZZ := Lib.hid (keep_bel bb ZZ.out); replace R3 := Lib.hid (R3.out.later bb); replace R4 := Lib.hid (R4.out.later bb); clear bb d0 d1; obtain ⟨d0, d1, -, -⟩ := has_two ZZ.out))
          | (go_at_call 28; ((with_reducible refine (rright_any r0 r1 _).mono ?_); rintro e vv ⟨rfl, bb⟩; replace BB := Lib.hid (bel_trans BB.out bb); replace ZZ := Lib.hid (keep_bel bb ZZ.out); replace R3 := Lib.hid (R3.out.later bb); replace R4 := Lib.hid (R4.out.later bb); rw [hs]; clear bb d0 d1; obtain ⟨d0, d1, -, -⟩ := has_two ZZ.out))
          | (go_at_call 29; ((with_reducible refine (rholds_any r0 r1 s _).mono ?_); rintro e vv ⟨rfl, bb⟩; replace BB := Lib.hid (bel_trans BB.out bb); replace ZZ := Lib.hid (keep_bel bb ZZ.out); replace R3 := Lib.hid (R3.out.later bb); replace R4 := Lib.hid (R4.out.later bb); rw [hh]; clear bb d0 d1; obtain ⟨d0, d1, -, -⟩ := has_two ZZ.out))
          | (go_at_call 11; ((with_reducible refine (live_true _).mono ?_); rintro e vv ⟨rfl, bb⟩; replace BB := Lib.hid (bel_trans BB.out bb); replace ZZ := Lib.hid (keep_bel bb ZZ.out); replace R3 := Lib.hid (R3.out.later bb); replace R4 := Lib.hid (R4.out.later bb); clear bb d0 d1; obtain ⟨d0, d1, -, -⟩ := has_two ZZ.out))
          | (go_at_call 15; ((with_reducible refine (AO.out A3 q3 _ R3.out).mono ?_); rintro e vv ⟨⟨A6, q6, rfl⟩, bb⟩; replace BB := Lib.hid (bel_trans BB.out bb); replace ZZ := Lib.hid (keep_bel bb ZZ.out); replace R3 := Lib.hid (R3.out.later bb); replace R4 := Lib.hid (R4.out.later bb); clear bb d0 d1; obtain ⟨d0, d1, -, -⟩ := has_two ZZ.out))
          | fail)
        go_ret
        exact ⟨rfl, BB.out⟩
      · replace AI := Lib.hid (AI.out (by rw [hs, hh]; rfl))
        have he := HI.out (by rw [hs, hh]; rfl)
        injection he with h1 h2
        subst h1 h2
        clear HI HU AO
        go_enter Try.func6, Try.ntmps6
        go_wp2_with (first
          | (go_at_call 8; ((with_reducible refine AF.out.mono ?_); rintro e w1 ⟨rfl, rfl⟩))
          | (go_at_call 10; ((with_reducible refine (AQ.out _ BB.out).mono ?_); rintro e vv ⟨rfl, bb⟩; replace BB := Lib.hid (bel_trans BB.out bb); replace ZZ := Lib.hid (keep_bel bb ZZ.out); clear bb d0 d1; obtain ⟨d0, d1, -, -⟩ := has_two ZZ.out))
          | (go_at_call 23; ((with_reducible refine (AT.out _ BB.out).mono ?_); rintro e vv ⟨⟨A3, q3, A4, q4, rfl, r3, r4⟩, bb⟩; replace BB := Lib.hid (bel_trans BB.out bb); replace ZZ := Lib.hid (keep_bel bb ZZ.out); have R3 := Lib.hid r3; have R4 := Lib.hid r4; clear r3 r4; clear bb d0 d1; obtain ⟨d0, d1, -, -⟩ := has_two ZZ.out))
          | (go_at_call 27; ((with_reducible refine (AV.out _ BB.out).mono ?_); rintro e vv ⟨rfl, bb⟩; replace BB := Lib.hid (bel_trans BB.out bb); replace ZZ := Lib.hid (keep_bel bb ZZ.out); replace R3 := Lib.hid (R3.out.later bb); replace R4 := Lib.hid (R4.out.later bb); clear bb d0 d1; obtain ⟨d0, d1, -, -⟩ := has_two ZZ.out))
          | (go_at_call 27; ((with_reducible refine (AV2.out A3 q3 _ R3.out).mono ?_); rintro e vv ⟨rfl, bb⟩; replace BB := Lib.hid (bel_trans BB.out bb); replace ZZ := Lib.hid (keep_bel bb ZZ.out); replace R3 := Lib.hid (R3.out.later bb); replace R4 := Lib.hid (R4.out.later bb); clear bb d0 d1; obtain ⟨d0, d1, -, -⟩ := has_two ZZ.out))
          | (go_at_call 27; ((with_reducible refine (AV3.out A4 q4 _ R4.out).mono ?_); rintro e vv ⟨rfl, bb⟩; replace BB := Lib.hid (bel_trans BB.out bb); replace ZZ := Lib.hid (keep_bel bb ZZ.out); replace R3 := Lib.hid (R3.out.later bb); replace R4 := Lib.hid (R4.out.later bb); clear bb d0 d1; obtain ⟨d0, d1, -, -⟩ := has_two ZZ.out))
          | (go_at_call 28; ((with_reducible refine (rright_any r0 r1 _).mono ?_); rintro e vv ⟨rfl, bb⟩; replace BB := Lib.hid (bel_trans BB.out bb); replace ZZ := Lib.hid (keep_bel bb ZZ.out); replace R3 := Lib.hid (R3.out.later bb); replace R4 := Lib.hid (R4.out.later bb); rw [hs]; clear bb d0 d1; obtain ⟨d0, d1, -, -⟩ := has_two ZZ.out))
          | (go_at_call 29; ((with_reducible refine (rholds_any r0 r1 s _).mono ?_); rintro e vv ⟨rfl, bb⟩; replace BB := Lib.hid (bel_trans BB.out bb); replace ZZ := Lib.hid (keep_bel bb ZZ.out); replace R3 := Lib.hid (R3.out.later bb); replace R4 := Lib.hid (R4.out.later bb); rw [hh]; clear bb d0 d1; obtain ⟨d0, d1, -, -⟩ := has_two ZZ.out))
          | (go_at_call 11; ((with_reducible refine (live_true _).mono ?_); rintro e vv ⟨rfl, bb⟩; replace BB := Lib.hid (bel_trans BB.out bb); replace ZZ := Lib.hid (keep_bel bb ZZ.out); replace R3 := Lib.hid (R3.out.later bb); replace R4 := Lib.hid (R4.out.later bb); clear bb d0 d1; obtain ⟨d0, d1, -, -⟩ := has_two ZZ.out))
          | (go_at_call 15; ((with_reducible refine (AI.out A4 q4 _ R4.out).mono ?_); rintro e vv ⟨⟨A6, q6, rfl⟩, bb⟩; replace BB := Lib.hid (bel_trans BB.out bb); replace ZZ := Lib.hid (keep_bel bb ZZ.out); replace R3 := Lib.hid (R3.out.later bb); replace R4 := Lib.hid (R4.out.later bb); clear bb d0 d1; obtain ⟨d0, d1, -, -⟩ := has_two ZZ.out))
          | fail)
        go_ret
        exact ⟨rfl, BB.out⟩
theorem parts_law (A : Option Addr) (n cap : Nat) (xs : List MG) (r0 r1 s v : ByteArray) (is : Bool) (w : World) (hnc : n ≤ cap) (hc : cap ≤ maxLen) (hl : xs.length = n) (hA : EG.Rd w A xs) (ho : OkA xs) (hd : ∀ x ∈ xs, DlOk x) (s0 : SzOk r0) (s1 : SzOk r1) :
    Calls Try.prog 6 #[.slice A n cap, .agg #[.string r0, .string r1], .string s, .string v, .bool is] w fun r w' => r = .returned (.bool true) ∧ Below w.heap.size w w' :=
  parts_few A (min n 30) cap (xs.take (min n 30)) r0 r1 s v is n w rfl hnc (by unfold maxLen at hc; omega) (by rw [List.length_take, hl]; omega) (hA.take _) (fun x hx => ho x (List.mem_of_mem_take hx)) (fun x hx => hd x (List.mem_of_mem_take hx)) s0 s1
end Go.Proofs.Ytdbnkeihnoglcaa
