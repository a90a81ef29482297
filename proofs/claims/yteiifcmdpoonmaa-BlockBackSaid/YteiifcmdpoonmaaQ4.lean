/- BlockBack. -/
import Derived.Test.YteiifcmdpoonmaaQ3
namespace Go.Proofs.Yteiifcmdpoonmaa
set_option linter.unusedSimpArgs false
open Go.RowKit Go.Maps Go.Shelf
set_option linter.unusedVariables false
theorem en_ne {l : List TT} {s : ByteArray} {e : Int} (h : En l s (.error e)) : e ≠ 0 := by
  cases h <;> first | assumption | decide
theorem un_ne {n : Nat} {l : List TT} {s : ByteArray} {y : Except Int (List TT)} (h : Un n l s y) : ∀ e, y = .error e → e ≠ 0 := by
  induction h with
  | done l => intro e he; cases he
  | rest l s hs => intro e he; cases he; decide
  | err n l s e hE => intro e' he; cases he; exact en_ne hE
  | step n l s r x y hE hU ih => exact ih
theorem up_ne {s : ByteArray} {e : Int} (h : Up s (.error e)) : e ≠ 0 := by
  cases h with
  | num n r _ h1 h2 => exact h2
  | some m r _ h1 h2 => exact un_ne h2 e rfl
/-- The middle of the law: what a packed block unpacks to. -/
theorem back_up (xs : List TT) (hr : ris xs) (hz : ∀ x ∈ xs, x.1.size ≤ 256 ∧ x.2.size ≤ 4096) (hn : xs.length ≤ 40) : ∀ W, Calls Try.prog 11 #[.string ⟨(pkB xs).toArray⟩] W fun e w' => ∃ A c, e = .returned (.tuple #[.slice A xs.length c, .int .i64 0]) ∧ RdT w' A xs ∧ Below W.heap.size W w' := by
  intro W
  have hs : (⟨(pkB xs).toArray⟩ : ByteArray).size ≤ 400000 := by
    rw [mk_size]
    unfold pkB
    have h1 := pkL_len ⟨#[]⟩ xs 4096 (fun x hx => ⟨by have := hz x hx; omega, by have := hz x hx; omega⟩)
    have h2 := numF_size (xs.length : Int)
    have h3 : (numF (xs.length : Int)).data.toList.length = (numF (xs.length : Int)).size := by simp
    rw [List.length_append, h3]
    have h4 : xs.length * (15 + 2 * 4096) ≤ 40 * 8207 := Nat.mul_le_mul hn (by omega)
    omega
  exact unpack_any _ _ W hs (up_back xs hr hz (by omega))
set_option maxHeartbeats 4000000 in
theorem back_law (A : Option Addr) (len cap : Nat) (l : List TT) (s : ByteArray) (w : World) (hl : l.length = len) (hc : len ≤ cap) (hm : cap ≤ maxLen) (hz : A = none → cap = 0) (hR : RdT w A l) :
    Calls Try.prog 5 #[.slice A len cap, .string s] w fun e w' => e = .returned (.bool true) ∧ Below w.heap.size w w' := by
  obtain ⟨n, hn⟩ : ∃ n, n = min len 40 := ⟨_, rfl⟩
  obtain ⟨xs, hxs⟩ : ∃ xs, xs = l.take n := ⟨_, rfl⟩
  have hxl : xs.length = n := by rw [hxs, List.length_take, hl]; omega
  have HX := Lib.hid (show RdT w A xs by rw [hxs]; exact rdt_take hR n)
  have FW := Lib.hid (few_any A len cap w hc hm)
  rw [← hn] at FW
  have hn40 : n ≤ 40 := by omega
  have HL := Lib.hid hxl
  clear hl hc hm hz hR hn hxs hxl
  by_cases b0 : 4000 < s.size
  · have c0 : (4000 : Int) < (s.size : Int) := by omega
    go_enter Try.func5, Try.ntmps5
    go_wp2_with (first
      | (go_at_call 6; ((with_reducible refine FW.out.mono ?_); rintro e w1 ⟨rfl, rfl⟩))
      | (go_at_call 8; ((with_reducible refine (live_any _).mono ?_); rintro e w4 ⟨rfl, b4⟩; have B4 := Lib.hid b4; clear b4))
      | fail)
    go_ret
    exact ⟨rfl, B4.out⟩
  · have c0 : ¬ (4000 : Int) < (s.size : Int) := by omega
    have EN : Hid (∀ a2 a3 : Value, ∀ W, Below w.heap.size w W → RdT W A xs → True) := Lib.hid (fun _ _ _ _ _ => trivial)
    obtain ⟨y, hy⟩ := up_total s
    have PN : Hid (¬ ris xs → ∀ W, RdT W A xs → Calls Try.prog 13 #[.slice A n cap] W fun e w' => e = .returned (.string ⟨#[]⟩) ∧ Below W.heap.size W w') := Lib.hid (fun h W hW => pack_not A n cap xs W HL.out (by omega) hW h)
    have z0 : ((⟨#[]⟩ : ByteArray).toList == (⟨#[]⟩ : ByteArray).toList) = true := by simp
    have z1 : (⟨#[]⟩ : ByteArray).toList.isEmpty = true := by rw [ByteArray.toList_eq]; rfl
    have P11 : ∃ (q : Nat) (z : List TT) (f : Int), z.length = q ∧ q ≤ 1000000 ∧ Calls Try.prog 11 #[.string s] w (fun e w' => ∃ A c, e = .returned (.tuple #[.slice A q c, .int .i64 f]) ∧ RdT w' A z ∧ Below w.heap.size w w') ∧ ((f == 0) = false ∨ (f = 0 ∧ ∀ W A c, RdT W A z → Calls Try.prog 13 #[.slice A q c] W fun e w' => e = .returned (.string s) ∧ Below W.heap.size W w')) := by
      have U := unpack_any s y w (by omega) hy
      cases y with
      | error x =>
        refine ⟨0, [], x, rfl, by omega, ?_, .inl (by simpa using up_ne hy)⟩
        refine U.mono ?_
        rintro e w' ⟨rfl, b⟩
        exact ⟨_, _, rfl, .inl rfl, b⟩
      | ok z =>
        obtain ⟨h1, h2⟩ := up_small hy (by omega)
        obtain ⟨h3, h4⟩ := up_bytes hy
        refine ⟨z.length, z, 0, rfl, by omega, U, .inr ⟨rfl, fun W A c hW => ?_⟩⟩
        have := pack_any A z.length c z W rfl (by omega) hW (fun _ => h2)
        rw [h3] at this
        exact this
    obtain ⟨q, z, f, hzq, hq, U, hf⟩ := P11
    have HU := Lib.hid U
    have ss : (s.toList == s.toList) = true := by simp
    clear U hy
    by_cases hr : ris xs
    · have RI : Hid (∀ W, RdT W A xs → Calls Try.prog 7 #[.slice A n cap] W fun e w' => e = .returned (.bool true) ∧ Below W.heap.size W w') := Lib.hid (fun W hW => (refRises_any A n cap xs W HL.out (by omega) hW).mono (fun e w' h => by
        obtain ⟨⟨b, rfl, hb⟩, h2⟩ := h
        rw [hb.2 hr]; exact ⟨rfl, h2⟩))
      have PK : Hid ((∀ x ∈ xs, x.1.size ≤ 256 ∧ x.2.size ≤ 4096) → (∀ W, RdT W A xs → Calls Try.prog 13 #[.slice A n cap] W fun e w' => e = .returned (.string ⟨(pkB xs).toArray⟩) ∧ Below W.heap.size W w') ∧ ∀ W, Calls Try.prog 11 #[.string ⟨(pkB xs).toArray⟩] W fun e w' => ∃ A c, e = .returned (.tuple #[.slice A n c, .int .i64 0]) ∧ RdT w' A xs ∧ Below W.heap.size W w') := Lib.hid (fun h => by
        refine ⟨fun W hW => pack_in A n cap xs W HL.out (by omega) hW (fun x hx => ⟨by have := h x hx; omega, by have := h x hx; omega⟩) hr, fun W => ?_⟩
        have := back_up xs hr h (by rw [HL.out]; omega) W
        rw [HL.out] at this
        exact this)
      clear hr z0 z1 PN
      rcases hf with hf | ⟨rfl, hp⟩
      all_goals try have HP := Lib.hid hp
      all_goals try clear hp
      all_goals
        go_enter Try.func5, Try.ntmps5
        go_wp2_with (first
          | (go_at_call 6; ((with_reducible refine FW.out.mono ?_); rintro e w1 ⟨rfl, rfl⟩))
          | (go_at_call 11; ((with_reducible refine HU.out.mono ?_); rintro e w1 ⟨A1, c1, rfl, r1, b1⟩; have R1 := Lib.hid r1; have X1 := Lib.hid (rdt_later HX.out b1); have B1 := Lib.hid b1; clear r1 b1))
          | (go_at_call 13; ((with_reducible refine (HP.out _ _ _ R1.out).mono ?_); rintro e w2 ⟨rfl, b2⟩; have X1 := Lib.hid (rdt_later X1.out b2); have B1 := Lib.hid (bel_trans B1.out b2); clear b2))
          | (go_at_call 7; ((with_reducible refine (RI.out _ X1.out).mono ?_); rintro e w3 ⟨rfl, b3⟩; have X3 := Lib.hid (rdt_later X1.out b3); have B3 := Lib.hid (bel_trans B1.out b3); clear b3))
          | fail)
        go_loopw [7] (fun iv wr => ∃ k : Nat, k ≤ n ∧ iv = .int .i64 k ∧ (∀ x ∈ xs.take k, x.1.size ≤ 256 ∧ x.2.size ≤ 4096) ∧ wr = w3) (fun i _ => n - (intOf i).toNat)
        case atStart => exact ⟨0, by omega, rfl, by simp, rfl⟩
        case round =>
          obtain ⟨k, hk, rfl, ht, rfl⟩ := hrel
          have HT := Lib.hid ht
          clear ht
          by_cases h8 : k < n
          · have hk1 : (k : Int) < (n : Int) := by omega
            have hk0 : (0 : Int) ≤ (k : Int) := by omega
            obtain ⟨x, hx⟩ : ∃ x, xs[k]? = some x := ⟨_, List.getElem?_eq_getElem (by rw [HL.out]; omega)⟩
            obtain ⟨b, off, rfl, hlt, g0, g1⟩ := rdt_get X3.out hx
            have HS := Lib.hid (take_snoc hx)
            clear hx hlt
            obtain ⟨x0, x1⟩ := x
            simp only at g0 g1
            by_cases b0 : 256 < x0.size
            · have c0 : (256 : Int) < (x0.size : Int) := by omega
              clear b0
              go_wp2_with (first
                | (go_at_call 8; ((with_reducible refine (live_any _).mono ?_); rintro e w4 ⟨rfl, b4⟩; have B4 := Lib.hid (bel_trans B3.out b4); clear b4))
                | fail)
              go_ret
              exact ⟨rfl, B4.out⟩
            · have c0 : ¬ (256 : Int) < (x0.size : Int) := by omega
              by_cases b1 : 4096 < x1.size
              · have c1 : (4096 : Int) < (x1.size : Int) := by omega
                clear b0 b1
                go_wp2_with (first
                  | (go_at_call 8; ((with_reducible refine (live_any _).mono ?_); rintro e w4 ⟨rfl, b4⟩; have B4 := Lib.hid (bel_trans B3.out b4); clear b4))
                  | fail)
                go_ret
                exact ⟨rfl, B4.out⟩
              · have c1 : ¬ (4096 : Int) < (x1.size : Int) := by omega
                have hn := Lib.hid (show ∀ x ∈ xs.take (k + 1), x.1.size ≤ 256 ∧ x.2.size ≤ 4096 by
                  rw [HS.out]
                  intro y hy
                  rcases List.mem_append.1 hy with hy | hy
                  · exact HT.out y hy
                  · simp at hy; subst hy; exact ⟨by simp only; omega, by simp only; omega⟩)
                clear b0 b1
                go_wp2
                exact ⟨⟨k + 1, by omega, by simp, hn.out, by trivial⟩, by simp [intOf]; omega⟩
          · obtain rfl : k = n := by omega
            have hk1 : ¬ (k : Int) < (k : Int) := by omega
            have hx0 : ∀ x ∈ xs, x.1.size ≤ 256 ∧ x.2.size ≤ 4096 := by
              have h := HT.out
              rw [List.take_of_length_le (by rw [HL.out]; omega)] at h
              exact h
            obtain ⟨k1, k2⟩ := PK.out hx0
            obtain ⟨P, hP⟩ : ∃ P : ByteArray, P = ⟨(pkB xs).toArray⟩ := ⟨_, rfl⟩
            rw [← hP] at k1 k2
            have K1 := Lib.hid k1
            have K2 := Lib.hid k2
            clear k1 k2 hP hx0 PK
            go_wp2_with (first
              | (go_at_call 13; ((with_reducible refine (K1.out _ X3.out).mono ?_); rintro e w4 ⟨rfl, b4⟩; have X4 := Lib.hid (rdt_later X3.out b4); have B4 := Lib.hid (bel_trans B3.out b4); clear b4))
              | (go_at_call 11; ((with_reducible refine (K2.out _).mono ?_); rintro e w5 ⟨A5, c5, rfl, r5, b5⟩; have R5 := Lib.hid r5; have X5 := Lib.hid (rdt_later X4.out b5); have B5 := Lib.hid (bel_trans B4.out b5); clear r5 b5))
              | (go_at_call 8; ((with_reducible refine (live_any _).mono ?_); rintro e w6 ⟨rfl, b6⟩; have R6 := Lib.hid (rdt_later R5.out b6); have X6 := Lib.hid (rdt_later X5.out b6); have B6 := Lib.hid (bel_trans B5.out b6); clear b6))
              | (go_at_call 10; ((with_reducible refine (same_any _ _ k k _ _ xs xs _ HL.out HL.out (by omega) (by omega) R6.out X6.out).mono ?_); rintro e w7 ⟨⟨u, rfl, hu⟩, b7⟩; obtain rfl := hu.2 rfl; have B7 := Lib.hid (bel_trans B6.out b7); clear b7 hu))
              | fail)
            go_ret
            exact ⟨rfl, B7.out⟩
    · have RI : Hid (∀ W, RdT W A xs → Calls Try.prog 7 #[.slice A n cap] W fun e w' => e = .returned (.bool false) ∧ Below W.heap.size W w') := Lib.hid (fun W hW => (refRises_any A n cap xs W HL.out (by omega) hW).mono (fun e w' h => by
        obtain ⟨⟨b, rfl, hb⟩, h2⟩ := h
        cases b with
        | false => exact ⟨rfl, h2⟩
        | true => exact absurd (hb.1 rfl) hr))
      have PN := Lib.hid (PN.out hr)
      clear hr
      rcases hf with hf | ⟨rfl, hp⟩
      all_goals try have HP := Lib.hid hp
      all_goals try clear hp
      all_goals
        go_enter Try.func5, Try.ntmps5
        go_wp2_with (first
          | (go_at_call 6; ((with_reducible refine FW.out.mono ?_); rintro e w1 ⟨rfl, rfl⟩))
          | (go_at_call 11; ((with_reducible refine HU.out.mono ?_); rintro e w1 ⟨A1, c1, rfl, r1, b1⟩; have R1 := Lib.hid r1; have X1 := Lib.hid (rdt_later HX.out b1); have B1 := Lib.hid b1; clear r1 b1))
          | (go_at_call 13; ((with_reducible refine (HP.out _ _ _ R1.out).mono ?_); rintro e w2 ⟨rfl, b2⟩; have X1 := Lib.hid (rdt_later X1.out b2); have B1 := Lib.hid (bel_trans B1.out b2); clear b2))
          | (go_at_call 7; ((with_reducible refine (RI.out _ X1.out).mono ?_); rintro e w3 ⟨rfl, b3⟩; have X3 := Lib.hid (rdt_later X1.out b3); have B3 := Lib.hid (bel_trans B1.out b3); clear b3))
          | (go_at_call 8; ((with_reducible refine (live_any _).mono ?_); rintro e w4 ⟨rfl, b4⟩; have X4 := Lib.hid (rdt_later X3.out b4); have B4 := Lib.hid (bel_trans B3.out b4); clear b4))
          | (go_at_call 13; ((with_reducible refine (PN.out _ X4.out).mono ?_); rintro e w5 ⟨rfl, b5⟩; have B5 := Lib.hid (bel_trans B4.out b5); clear b5))
          | fail)
        go_ret
        exact ⟨rfl, B5.out⟩
end Go.Proofs.Yteiifcmdpoonmaa
