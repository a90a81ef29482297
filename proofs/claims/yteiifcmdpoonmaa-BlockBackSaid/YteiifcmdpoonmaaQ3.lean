/- BlockPacks. -/
import Derived.Test.YteiifcmdpoonmaaQ2
import Derived.Test.YteiifcmdpoonmaaO2
namespace Go.Proofs.Yteiifcmdpoonmaa
set_option linter.unusedSimpArgs false
open Go.RowKit Go.Maps Go.Shelf
set_option linter.unusedVariables false
theorem up_both (s : ByteArray) (hs : s.size ≤ 4000) : ∃ (k : Nat) (z : List TT) (f : Int), z.length = k ∧ k ≤ 1000000 ∧
    (∀ W, Calls Try.prog 11 #[.string s] W fun e w' => ∃ A c, e = .returned (.tuple #[.slice A k c, .int .i64 f]) ∧ RdT w' A z ∧ Below W.heap.size W w') ∧
    (∀ W, Calls Try.prog 12 #[.string s] W fun e w' => ∃ A c, e = .returned (.tuple #[.slice A k c, .int .i64 f]) ∧ RdT w' A z ∧ Below W.heap.size W w') := by
  obtain ⟨y, hy⟩ := up_total s
  cases y with
  | error x =>
    refine ⟨0, [], x, rfl, by omega, fun W => ?_, fun W => ?_⟩
    · refine (unpack_any s _ W (by omega) hy).mono ?_
      rintro e w' ⟨rfl, b⟩
      exact ⟨_, _, rfl, .inl rfl, b⟩
    · refine (refUnpack_any s _ W (by omega) hy).mono ?_
      rintro e w' ⟨A, rfl, b⟩
      exact ⟨_, _, rfl, .inl rfl, b⟩
  | ok z =>
    have hz := (up_small hy (by omega)).1
    refine ⟨z.length, z, 0, rfl, by omega, fun W => ?_, fun W => ?_⟩
    · exact unpack_any s _ W (by omega) hy
    · exact refUnpack_any s _ W (by omega) hy
set_option maxHeartbeats 4000000 in
theorem packs_law (A : Option Addr) (len cap : Nat) (l : List TT) (s : ByteArray) (w : World) (hl : l.length = len) (hc : len ≤ cap) (hm : cap ≤ maxLen) (hz : A = none → cap = 0) (hR : RdT w A l) :
    Calls Try.prog 4 #[.slice A len cap, .string s] w fun e w' => e = .returned (.bool true) ∧ Below w.heap.size w w' := by
  obtain ⟨n, hn⟩ : ∃ n, n = min len 40 := ⟨_, rfl⟩
  obtain ⟨xs, hxs⟩ : ∃ xs, xs = l.take n := ⟨_, rfl⟩
  have hxl : xs.length = n := by rw [hxs, List.length_take, hl]; omega
  have HX := Lib.hid (show RdT w A xs by rw [hxs]; exact rdt_take hR n)
  have FW := Lib.hid (few_any A len cap w hc hm)
  rw [← hn] at FW
  have hn40 : n ≤ 40 := by omega
  have HL := Lib.hid hxl
  clear hl hc hm hz hR hn hxs hxl
  go_enter Try.func4, Try.ntmps4
  go_wp2_with (first
    | (go_at_call 6; ((with_reducible refine FW.out.mono ?_); rintro e w1 ⟨rfl, rfl⟩))
    | fail)
  go_loopw [5] (fun iv wr => ∃ k d : Nat, k ≤ n ∧ iv = .int .i64 k ∧ (∀ x ∈ xs.take k, x.1.size ≤ 4000 ∧ x.2.size ≤ 4000) ∧ wr = w.drewN d) (fun i _ => n - (intOf i).toNat)
  case atStart => exact ⟨0, 0, by omega, rfl, by simp, rfl⟩
  case round =>
    obtain ⟨k, d, hk, rfl, ht, hwr⟩ := hrel
    have HT := Lib.hid ht
    have HW := Lib.hid hwr
    have HB := Lib.hid (show Below w.heap.size w wr by rw [hwr]; exact bel_drewN (Below.refl _ _) _)
    clear ht hwr
    by_cases h8 : k < n
    · have hk1 : (k : Int) < (n : Int) := by omega
      have hk0 : (0 : Int) ≤ (k : Int) := by omega
      obtain ⟨x, hx⟩ : ∃ x, xs[k]? = some x := ⟨_, List.getElem?_eq_getElem (by rw [HL.out]; omega)⟩
      obtain ⟨b, off, rfl, hlt, f0, f1⟩ := rdt_get HX.out hx
      have g0 : wr.cell? ⟨b, off + k * 2, none⟩ = some (.string x.1) := by rw [HW.out]; exact f0
      have g1 : wr.cell? ⟨b, off + k * 2 + 1, none⟩ = some (.string x.2) := by rw [HW.out]; exact f1
      have HS := Lib.hid (take_snoc hx)
      clear f0 f1 hx hlt
      obtain ⟨x0, x1⟩ := x
      by_cases b0 : 4000 < x0.size
      · have c0 : (4000 : Int) < (x0.size : Int) := by omega
        clear b0
        go_wp2_with (first
          | (go_at_call 8; ((with_reducible refine (live_any _).mono ?_); rintro e w4 ⟨rfl, b4⟩; have B4 := Lib.hid (bel_trans HB.out b4); clear b4))
          | fail)
        go_ret
        exact ⟨rfl, B4.out⟩
      · have c0 : ¬ (4000 : Int) < (x0.size : Int) := by omega
        by_cases b1 : 4000 < x1.size
        · have c1 : (4000 : Int) < (x1.size : Int) := by omega
          clear b0 b1
          go_wp2_with (first
            | (go_at_call 8; ((with_reducible refine (live_any _).mono ?_); rintro e w4 ⟨rfl, b4⟩; have B4 := Lib.hid (bel_trans HB.out b4); clear b4))
            | fail)
          go_ret
          exact ⟨rfl, B4.out⟩
        · have c1 : ¬ (4000 : Int) < (x1.size : Int) := by omega
          have hn := Lib.hid (show ∀ x ∈ xs.take (k + 1), x.1.size ≤ 4000 ∧ x.2.size ≤ 4000 by
            rw [HS.out]
            intro y hy
            rcases List.mem_append.1 hy with hy | hy
            · exact HT.out y hy
            · simp at hy; subst hy; exact ⟨by simp only; omega, by simp only; omega⟩)
          clear b0 b1
          go_wp2
          exact ⟨⟨k + 1, d, by omega, by simp, hn.out, HW.out⟩, by simp [intOf]; omega⟩
    · obtain rfl : k = n := by omega
      have hk1 : ¬ (k : Int) < (k : Int) := by omega
      have hx0 : ∀ x ∈ xs, x.1.size ≤ 1000000 ∧ x.2.size ≤ 1000000 := by
        have h := HT.out
        rw [List.take_of_length_le (by rw [HL.out]; omega)] at h
        intro x hx
        have := h x hx
        exact ⟨by omega, by omega⟩
      have HX2 := Lib.hid (rdt_later HX.out HB.out)
      have PK : Hid (∀ W, RdT W A xs → Calls Try.prog 13 #[.slice A k cap] W fun e w' => e = .returned (.string (pkF xs)) ∧ Below W.heap.size W w') := Lib.hid (fun W hW => pack_any A k cap xs W HL.out (by omega) hW (fun _ => hx0))
      have RK : Hid (∀ W, RdT W A xs → Calls Try.prog 14 #[.slice A k cap] W fun e w' => e = .returned (.string (pkF xs)) ∧ Below W.heap.size W w') := Lib.hid (fun W hW => refPack_any A k cap xs W HL.out (by omega) hW (fun _ => hx0))
      clear hx0
      obtain ⟨P, hP⟩ : ∃ P, P = pkF xs := ⟨_, rfl⟩
      rw [← hP] at PK RK
      have hPP : (P.toList == P.toList) = true := by simp
      clear hP
      by_cases b0 : 4000 < s.size
      · have c0 : (4000 : Int) < (s.size : Int) := by omega
        go_wp2_with (first
          | (go_at_call 8; ((with_reducible refine (live_any _).mono ?_); rintro e w4 ⟨rfl, b4⟩; have B4 := Lib.hid (bel_trans HB.out b4); clear b4))
          | fail)
        go_ret
        exact ⟨rfl, B4.out⟩
      · have c0 : ¬ (4000 : Int) < (s.size : Int) := by omega
        obtain ⟨q, z, f, hz, hq, U1, U2⟩ := up_both s (by omega)
        have HZ := Lib.hid hz
        have U1 := Lib.hid U1
        have U2 := Lib.hid U2
        have hff : (f == f) = true := by simp
        clear hz
        go_wp2_with (first
          | (go_at_call 11; ((with_reducible refine (U1.out _).mono ?_); rintro e w1 ⟨A1, c1, rfl, r1, b1⟩; have R1 := Lib.hid r1; have X1 := Lib.hid (rdt_later HX2.out b1); have B1 := Lib.hid (bel_trans HB.out b1); clear r1 b1))
          | (go_at_call 12; ((with_reducible refine (U2.out _).mono ?_); rintro e w2 ⟨A2, c2, rfl, r2, b2⟩; have R2 := Lib.hid r2; have R12 := Lib.hid (rdt_later R1.out b2); have X2 := Lib.hid (rdt_later X1.out b2); have B2 := Lib.hid (bel_trans B1.out b2); clear r2 b2))
          | (go_at_call 8; ((with_reducible refine (live_any _).mono ?_); rintro e w3 ⟨rfl, b3⟩; have R3 := Lib.hid (rdt_later R2.out b3); have R13 := Lib.hid (rdt_later R12.out b3); have X3 := Lib.hid (rdt_later X2.out b3); have B3 := Lib.hid (bel_trans B2.out b3); clear b3))
          | (go_at_call 13; ((with_reducible refine (PK.out _ X3.out).mono ?_); rintro e w4 ⟨rfl, b4⟩; have R4 := Lib.hid (rdt_later R3.out b4); have R14 := Lib.hid (rdt_later R13.out b4); have X4 := Lib.hid (rdt_later X3.out b4); have B4 := Lib.hid (bel_trans B3.out b4); clear b4))
          | (go_at_call 14; ((with_reducible refine (RK.out _ X4.out).mono ?_); rintro e w5 ⟨rfl, b5⟩; have R5 := Lib.hid (rdt_later R4.out b5); have R15 := Lib.hid (rdt_later R14.out b5); have B5 := Lib.hid (bel_trans B4.out b5); clear b5))
          | (go_at_call 10; ((with_reducible refine (same_any _ _ q q _ _ z z _ HZ.out HZ.out (by omega) (by omega) R15.out R5.out).mono ?_); rintro e w6 ⟨⟨u, rfl, hu⟩, b6⟩; obtain rfl := hu.2 rfl; have B6 := Lib.hid (bel_trans B5.out b6); clear b6 hu))
          | fail)
        go_ret
        exact ⟨rfl, B6.out⟩
end Go.Proofs.Yteiifcmdpoonmaa
