/- The law BufferTakes answers true. -/
import Derived.Test.YtdbnkeihnoglcaaB1
import Derived.Test.YtdbnkeihnoglcaaT5
import Derived.Test.YtdbnkeihnoglcaaU0
namespace Go.Proofs.Ytdbnkeihnoglcaa
set_option linter.unusedSimpArgs false
open Go.RowKit Go.Maps
set_option linter.unusedVariables false
abbrev SzOk (a : ByteArray) : Prop := a.size ≤ 140737488355328
theorem meet_ok {a0 a1 b0 b1 : ByteArray} (h0 : SzOk a0) (h1 : SzOk a1) (k0 : SzOk b0) (k1 : SzOk b1) : SzOk (meetF a0 a1 b0 b1).1 ∧ SzOk (meetF a0 a1 b0 b1).2.1 := by
  unfold meetF
  split
  · split
    · exact ⟨h0, h1⟩
    · unfold meetE
      split
      · refine ⟨?_, ?_⟩
        · show SzOk (maxS a0 b0); unfold maxS; split <;> assumption
        · show SzOk (firstS a1 b1); unfold firstS; split <;> assumption
      · exact ⟨by decide, by decide⟩
  · exact ⟨by decide, by decide⟩
theorem zm_ok : zM.Ok := by refine ⟨?_, ?_, ?_⟩ <;> decide
theorem clip_ok {m : MG} (hm : m.Ok) {a b : ByteArray} (ha : SzOk a) (hb : SzOk b) : (clipM m a b).1.Ok := by
  unfold clipM
  split
  · split
    · exact hm
    · exact zm_ok
  · split
    · split
      · have q := meet_ok hm.1 hm.2.1 ha hb
        exact ⟨q.1, q.2, hm.2.2⟩
      · exact zm_ok
    · exact zm_ok
theorem rest_ok {m : MG} (hm : m.Ok) {a b : ByteArray} (ha : SzOk a) (hb : SzOk b) : OkA (restM m a b) := by
  have q := clip_ok hm ha hb
  intro x hx
  unfold restM restQ at hx
  split at hx
  · split at hx
    · cases hx
    · rw [List.mem_singleton.1 hx]; exact hm
  · split at hx
    · split at hx
      · rcases List.mem_append.1 hx with hx | hx
        · split at hx
          · rw [List.mem_singleton.1 hx]; exact ⟨hm.1, q.1, hm.2.2⟩
          · cases hx
        · split at hx
          · rw [List.mem_singleton.1 hx]; exact ⟨q.2.1, hm.2.1, hm.2.2⟩
          · cases hx
      · rw [List.mem_singleton.1 hx]; exact hm
    · cases hx
theorem forL_ok {xs : List MG} (ho : OkA xs) {a b : ByteArray} (ha : SzOk a) (hb : SzOk b) : OkA (forL a b xs) := by
  intro x hx
  obtain ⟨m, hm, hx⟩ := List.mem_flatMap.1 hx
  split at hx
  · rw [List.mem_singleton.1 hx]; exact clip_ok (ho m hm) ha hb
  · cases hx
theorem resL_ok {xs : List MG} (ho : OkA xs) {a b : ByteArray} (ha : SzOk a) (hb : SzOk b) : OkA (resL a b xs) := by
  intro x hx
  obtain ⟨m, hm, hx⟩ := List.mem_flatMap.1 hx
  exact rest_ok (ho m hm) ha hb x hx
set_option maxRecDepth 100000 in
set_option maxHeartbeats 8000000 in
theorem takes_few (A : Option Addr) (m cap : Nat) (ys : List MG) (r0 r1 : ByteArray) (n : Nat) (w : World) (hmn : min n 30 = m) (hnc : n ≤ cap) (hc : cap ≤ 9223372036854775807) (hl : ys.length = m) (hA : EG.Rd w A ys) (ho : OkA ys) (s0 : SzOk r0) (s1 : SzOk r1) :
    Calls Try.prog 5 #[.slice A n cap, .agg #[.string r0, .string r1]] w fun r w' => r = .returned (.bool true) ∧ Below w.heap.size w w' := by
  have hm30 : m ≤ 30 := by have := min_le30 n; omega
  have hm : m ≤ 1000 := by omega
  have HL := Lib.hid hl
  have HO := Lib.hid ho
  have HA := Lib.hid (fun W (hW : Below w.heap.size w W) => hA.later hW)
  have H0 := Lib.hid (alb w (rgc r0 r1))
  have z0 := Lib.hid (heap_alloc_new w (rgc r0 r1))
  have AF := Lib.hid (few_any A n cap (w.alloc (rgc r0 r1)) hnc hc)
  rw [hmn] at AF
  obtain ⟨q, hq⟩ : ∃ q, q = rightB ys := ⟨_, rfl⟩
  have AQ : Hid (∀ W, Below w.heap.size w W → Calls Try.prog 10 #[.slice A m cap] W fun r w' => r = .returned (.bool q) ∧ Below W.heap.size W w') := Lib.hid (fun W hW => by rw [hq]; exact rright_all A m cap ys W HL.out hm (HA.out W hW) HO.out)
  obtain ⟨d0, d1, -, -⟩ := has_two z0.out
  clear hl hA ho hmn hnc hc
  cases q
  · clear hq d0 d1 s0 s1
    go_enter Try.func5, Try.ntmps5
    go_wp2_with (first
      | (go_at_call 8; ((with_reducible refine AF.out.mono ?_); rintro e w1 ⟨rfl, rfl⟩))
      | (go_at_call 10; ((with_reducible refine (AQ.out _ H0.out).mono ?_); rintro e w2 ⟨rfl, b2⟩; have B1 := Lib.hid (bel_trans H0.out b2); clear b2))
      | (go_at_call 11; ((with_reducible refine (live_true _).mono ?_); rintro e w3 ⟨rfl, b3⟩; have B3 := Lib.hid (bel_trans B1.out b3); clear b3))
      | fail)
    go_ret
    exact ⟨rfl, B3.out⟩
  · have AT := Lib.hid (fun W (hW : Below w.heap.size w W) => take_any r0 r1 A m cap ys W HL.out hm (HA.out W hW) HO.out)
    have AW := Lib.hid (fun W (hW : Below w.heap.size w W) => rfor_any r0 r1 A m cap ys W HL.out hm (HA.out W hW))
    have AG := Lib.hid (fun W (hW : Below w.heap.size w W) => for_any r0 r1 A m cap ys W HL.out hm (HA.out W hW) HO.out)
    have AR := Lib.hid (fun W (hW : Below w.heap.size w W) => rres_any r0 r1 A m cap ys W HL.out (by omega) (HA.out W hW) (fun k _ => acc_right (resL_right (right_take hq.symm k) r0 r1)))
    have HF1 := Lib.hid (forL_right hq.symm r0 r1)
    have HF2 := Lib.hid (resL_right hq.symm r0 r1)
    have HO1 := Lib.hid (forL_ok HO.out s0 s1)
    have HO2 := Lib.hid (resL_ok HO.out s0 s1)
    have HN1 := Lib.hid (show (forL r0 r1 ys).length ≤ 1000 by have := forL_len r0 r1 ys; rw [HL.out] at this; omega)
    have HN2 := Lib.hid (show (resL r0 r1 ys).length ≤ 1000 by have := resL_len r0 r1 ys; rw [HL.out] at this; omega)
    unfold RowsOf at AW AR
    obtain ⟨L, hL⟩ : ∃ L, forL r0 r1 ys = L := ⟨_, rfl⟩
    obtain ⟨M, hM⟩ : ∃ M, resL r0 r1 ys = M := ⟨_, rfl⟩
    rw [hL] at AT AW AG HF1 HO1 HN1
    rw [hM] at AT AR HF2 HO2 HN2
    obtain ⟨a, ha⟩ : ∃ a, L.length = a := ⟨_, rfl⟩
    obtain ⟨b, hb⟩ : ∃ b, M.length = b := ⟨_, rfl⟩
    have HLA := Lib.hid ha
    have HMB := Lib.hid hb
    rw [ha] at AT AW AG HN1
    rw [hb] at AT AR HN2
    clear hq hL hM ha hb s0 s1
    have A9a := Lib.hid (fun (X : Option Addr) (c : Nat) (W : World) (h : EG.Rd W X L) => show Calls Try.prog 9 #[.slice X a c] W fun r w' => r = .returned (.bool true) ∧ Below W.heap.size W w' by
      have q := right_any X a c L W HLA.out HN1.out h HO1.out
      rw [HF1.out] at q; exact q)
    have A9b := Lib.hid (fun (X : Option Addr) (c : Nat) (W : World) (h : EG.Rd W X M) => show Calls Try.prog 9 #[.slice X b c] W fun r w' => r = .returned (.bool true) ∧ Below W.heap.size W w' by
      have q := right_any X b c M W HMB.out HN2.out h HO2.out
      rw [HF2.out] at q; exact q)
    have BB := H0
    have ZZ := z0
    clear H0 z0
    go_enter Try.func5, Try.ntmps5
    go_wp2_with (first
      | (go_at_call 8; ((with_reducible refine AF.out.mono ?_); rintro e w1 ⟨rfl, rfl⟩))
      | (go_at_call 10; ((with_reducible refine (AQ.out _ BB.out).mono ?_); rintro e vv ⟨rfl, bb⟩; replace BB := Lib.hid (bel_trans BB.out bb); replace ZZ := Lib.hid (keep_bel bb ZZ.out); clear bb d0 d1; obtain ⟨d0, d1, -, -⟩ := has_two ZZ.out))
      | (go_at_call 23; ((with_reducible refine (AT.out _ BB.out).mono ?_); rintro e vv ⟨⟨A3, q3, A4, q4, rfl, r3, r4⟩, bb⟩; replace BB := Lib.hid (bel_trans BB.out bb); replace ZZ := Lib.hid (keep_bel bb ZZ.out); have R3 := Lib.hid r3; have R4 := Lib.hid r4; clear r3 r4; clear bb d0 d1; obtain ⟨d0, d1, -, -⟩ := has_two ZZ.out))
      | (go_at_call 24; ((with_reducible refine (AW.out _ BB.out).mono ?_); rintro e vv ⟨⟨A5, q5, rfl, r5⟩, bb⟩; replace BB := Lib.hid (bel_trans BB.out bb); replace ZZ := Lib.hid (keep_bel bb ZZ.out); replace R3 := Lib.hid (R3.out.later bb); replace R4 := Lib.hid (R4.out.later bb); have R5 := Lib.hid r5; clear r5; clear bb d0 d1; obtain ⟨d0, d1, -, -⟩ := has_two ZZ.out))
      | (go_at_call 11; ((with_reducible refine (live_true _).mono ?_); rintro e vv ⟨rfl, bb⟩; replace BB := Lib.hid (bel_trans BB.out bb); replace ZZ := Lib.hid (keep_bel bb ZZ.out); replace R3 := Lib.hid (R3.out.later bb); replace R4 := Lib.hid (R4.out.later bb); replace R5 := Lib.hid (R5.out.later bb); clear bb d0 d1; obtain ⟨d0, d1, -, -⟩ := has_two ZZ.out))
      | (go_at_call 14; ((with_reducible refine (same_any A3 A5 a q3 q5 L _ HLA.out HN1.out R3.out R5.out).mono ?_); rintro e vv ⟨rfl, bb⟩; replace BB := Lib.hid (bel_trans BB.out bb); replace ZZ := Lib.hid (keep_bel bb ZZ.out); replace R3 := Lib.hid (R3.out.later bb); replace R4 := Lib.hid (R4.out.later bb); replace R5 := Lib.hid (R5.out.later bb); clear bb d0 d1; obtain ⟨d0, d1, -, -⟩ := has_two ZZ.out))
      | (go_at_call 25; ((with_reducible refine (AG.out _ BB.out).mono ?_); rintro e vv ⟨⟨A6, q6, rfl, r6⟩, bb⟩; replace BB := Lib.hid (bel_trans BB.out bb); replace ZZ := Lib.hid (keep_bel bb ZZ.out); replace R3 := Lib.hid (R3.out.later bb); replace R4 := Lib.hid (R4.out.later bb); replace R5 := Lib.hid (R5.out.later bb); have R6 := Lib.hid r6.rd; clear r6; clear bb d0 d1; obtain ⟨d0, d1, -, -⟩ := has_two ZZ.out))
      | (go_at_call 14; ((with_reducible refine (same_any A6 A5 a q6 q5 L _ HLA.out HN1.out R6.out R5.out).mono ?_); rintro e vv ⟨rfl, bb⟩; replace BB := Lib.hid (bel_trans BB.out bb); replace ZZ := Lib.hid (keep_bel bb ZZ.out); replace R3 := Lib.hid (R3.out.later bb); replace R4 := Lib.hid (R4.out.later bb); replace R5 := Lib.hid (R5.out.later bb); clear bb d0 d1; obtain ⟨d0, d1, -, -⟩ := has_two ZZ.out))
      | (go_at_call 26; ((with_reducible refine (AR.out _ BB.out).mono ?_); rintro e vv ⟨⟨A7, q7, rfl, r7⟩, bb⟩; replace BB := Lib.hid (bel_trans BB.out bb); replace ZZ := Lib.hid (keep_bel bb ZZ.out); replace R3 := Lib.hid (R3.out.later bb); replace R4 := Lib.hid (R4.out.later bb); have R7 := Lib.hid r7; clear r7; clear bb d0 d1; obtain ⟨d0, d1, -, -⟩ := has_two ZZ.out))
      | (go_at_call 14; ((with_reducible refine (same_any A4 A7 b q4 q7 M _ HMB.out HN2.out R4.out R7.out).mono ?_); rintro e vv ⟨rfl, bb⟩; replace BB := Lib.hid (bel_trans BB.out bb); replace ZZ := Lib.hid (keep_bel bb ZZ.out); replace R3 := Lib.hid (R3.out.later bb); replace R4 := Lib.hid (R4.out.later bb); clear bb d0 d1; obtain ⟨d0, d1, -, -⟩ := has_two ZZ.out))
      | (go_at_call 9; ((with_reducible refine (A9a.out A3 q3 _ R3.out).mono ?_); rintro e vv ⟨rfl, bb⟩; replace BB := Lib.hid (bel_trans BB.out bb); replace ZZ := Lib.hid (keep_bel bb ZZ.out); replace R3 := Lib.hid (R3.out.later bb); replace R4 := Lib.hid (R4.out.later bb); clear bb d0 d1; obtain ⟨d0, d1, -, -⟩ := has_two ZZ.out))
      | (go_at_call 9; ((with_reducible refine (A9b.out A4 q4 _ R4.out).mono ?_); rintro e vv ⟨rfl, bb⟩; replace BB := Lib.hid (bel_trans BB.out bb); replace ZZ := Lib.hid (keep_bel bb ZZ.out); replace R3 := Lib.hid (R3.out.later bb); replace R4 := Lib.hid (R4.out.later bb); clear bb d0 d1; obtain ⟨d0, d1, -, -⟩ := has_two ZZ.out))
      | fail)
    go_ret
    exact ⟨rfl, BB.out⟩
theorem takes_law (A : Option Addr) (n cap : Nat) (xs : List MG) (r0 r1 : ByteArray) (w : World) (hnc : n ≤ cap) (hc : cap ≤ maxLen) (hl : xs.length = n) (hA : EG.Rd w A xs) (ho : OkA xs) (s0 : SzOk r0) (s1 : SzOk r1) :
    Calls Try.prog 5 #[.slice A n cap, .agg #[.string r0, .string r1]] w fun r w' => r = .returned (.bool true) ∧ Below w.heap.size w w' :=
  takes_few A (min n 30) cap (xs.take (min n 30)) r0 r1 n w rfl hnc (by unfold maxLen at hc; omega) (by rw [List.length_take, hl]; omega) (hA.take _) (fun x hx => ho x (List.mem_of_mem_take hx)) s0 s1
end Go.Proofs.Ytdbnkeihnoglcaa
