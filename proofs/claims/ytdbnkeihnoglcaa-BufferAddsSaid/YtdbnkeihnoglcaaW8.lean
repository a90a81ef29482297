/- Add, whole; the law BufferAdds answers true. -/
import Derived.Test.YtdbnkeihnoglcaaW7
import Derived.Test.YtdbnkeihnoglcaaT4
import Derived.Test.YtdbnkeihnoglcaaR6
import Derived.Test.YtdbnkeihnoglcaaB1
namespace Go.Proofs.Ytdbnkeihnoglcaa
set_option linter.unusedSimpArgs false
open Go.RowKit Go.Maps
set_option linter.unusedVariables false
set_option maxHeartbeats 2000000 in
theorem ins_none (A : Option Addr) (c : Nat) (w : World) :
    Calls Try.prog 73 #[.slice A 0 c, .int .i64 0, .int .i64 0, OF] w fun r w' => r = .returned (.tuple #[]) ∧ w = w' := by
  go_enter Try.func73, Try.ntmps73
  go_wp2
  go_loopw [8] (fun iv wr => iv = .int .i64 1 ∧ w = wr) (fun _ _ => 0)
  case atStart => exact ⟨by simp, rfl⟩
  case round =>
    obtain ⟨rfl, rfl⟩ := hrel
    go_wp2
    go_end0
    exact ⟨rfl, rfl⟩
set_option maxHeartbeats 2000000 in
theorem stable_none (A : Option Addr) (c : Nat) (w : World) :
    Calls Try.prog 66 #[.slice A 0 c, .int .i64 0, OF] w fun r w' => r = .returned (.tuple #[]) ∧ w = w' := by
  have AI := Lib.hid (ins_none A c)
  go_enter Try.func66, Try.ntmps66
  go_wp2
  go_loopw [7, 8] (fun av iv wr => av = .int .i64 0 ∧ iv = .int .i64 20 ∧ w = wr) (fun _ _ _ => 0)
  case atStart => exact ⟨rfl, rfl, rfl⟩
  case round =>
    obtain ⟨rfl, rfl, rfl⟩ := hrel
    go_wp2_with (first
      | (go_at_call 73; ((with_reducible refine (AI.out _).mono ?_); rintro e w1 ⟨rfl, rfl⟩))
      | fail)
    go_loopw [6] (fun iv wr => iv = .int .i64 20 ∧ w = wr) (fun i _ => 0)
    case atStart => exact ⟨rfl, rfl⟩
    case round =>
      obtain ⟨rfl, rfl⟩ := hrel
      go_wp2
      go_end0
      exact ⟨rfl, rfl⟩
theorem sort_none (A : Option Addr) (c : Nat) (w : World) :
    Calls Try.prog 48 #[.slice A 0 c, OF] w fun r w' => r = .returned (.tuple #[]) ∧ w = w' := by
  have AI := Lib.hid (stable_none A c w)
  go_enter Try.func48, Try.ntmps48
  go_wp2_with (first
    | (go_at_call 66; ((with_reducible refine AI.out.mono ?_); rintro e w1 ⟨rfl, rfl⟩))
    | fail)
  go_end0
  exact ⟨rfl, rfl⟩
theorem sort_some (b off n cap : Nat) (L : List MG) (w : World) (hl : L.length = n) (hn : n ≤ 1000) (hnc : n ≤ cap) (hI : InP w b off L w) :
    Calls Try.prog 48 #[.slice (some ⟨b, off, none⟩) n cap, OF] w fun r w' => r = .returned (.tuple #[]) ∧ InP w b off (stab L) w' := by
  have AI := Lib.hid (stable_any b off n cap L w hl hn hnc hI)
  clear hl hI
  go_enter Try.func48, Try.ntmps48
  go_wp2_with (first
    | (go_at_call 66; ((with_reducible refine AI.out.mono ?_); rintro e w1 ⟨rfl, c1⟩; have C1 := Lib.hid c1; clear c1))
    | fail)
  go_end0
  exact ⟨rfl, C1.out⟩
/-- What is sorted: a row of its own. -/
theorem sort_any (A : Option Addr) (n c base : Nat) (L : List MG) (w : World) (hl : L.length = n) (hn : n ≤ 1000) (hR : EG.Row w base A L c) (hb : base ≤ w.heap.size) :
    Calls Try.prog 48 #[.slice A n c, OF] w fun r w' => r = .returned (.tuple #[]) ∧ EG.Rd w' A (stab L) ∧ Below base w w' := by
  by_cases h0 : n = 0
  · subst h0
    have e : L = [] := List.eq_nil_of_length_eq_zero hl
    refine (sort_none A c w).mono ?_
    rintro e w1 ⟨rfl, rfl⟩
    subst L
    exact ⟨rfl, .inl rfl, Below.refl _ _⟩
  · obtain ⟨x, hx⟩ : ∃ x, x ∈ L := ⟨_, List.getElem_mem (show 0 < L.length by omega)⟩
    obtain ⟨b, rfl, h1, h2, h3, h4, h5⟩ := inp_of_row hR hx
    refine (sort_some b 0 n c L w hl hn (by omega) h3).mono ?_
    rintro e w1 ⟨rfl, hI⟩
    exact ⟨rfl, hI.rd, hI.chg.below (fun g hg => by rw [hg]; exact h1) hb⟩
set_option maxHeartbeats 2000000 in
theorem badd_any (A B : Option Addr) (n c m d : Nat) (xs ys : List MG) (w : World) (hx : xs.length = n) (hy : ys.length = m) (hn : n ≤ 100) (hm : m ≤ 100) (hA : EG.Rd w A xs) (hB : EG.Rd w B ys) :
    Calls Try.prog 20 #[.slice A n c, .slice B m d] w fun r w' => (∃ A' c', r = .returned (.slice A' (n + m) c') ∧ EG.Rd w' A' (stab (xs ++ ys))) ∧ Below w.heap.size w w' := by
  have H0 := Lib.hid (alb w (.cells #[.slice A n c, .slice B m d] 22))
  have AC := Lib.hid (concat_any w.heap.size A B n c m d xs ys (w.alloc (.cells #[.slice A n c, .slice B m d] 22)) (heap_alloc_new _ _) hx hy hn hm (hA.later (alb _ _)) (hB.later (alb _ _)))
  have HLEN := Lib.hid (show (xs ++ ys).length = n + m by rw [List.length_append, hx, hy])
  clear hx hy hA hB
  go_enter Try.func20, Try.ntmps20
  go_wp2_with (first
    | (go_at_call 47; ((with_reducible refine AC.out.mono ?_); rintro e w1 ⟨⟨A', c', rfl, r1⟩, b1⟩; have AS := Lib.hid (sort_any A' (n + m) c' _ (xs ++ ys) w1 HLEN.out (by omega) r1 b1.size); have B1 := Lib.hid (bel_trans H0.out b1); clear b1 r1))
    | (go_at_call 48; ((with_reducible refine AS.out.mono ?_); rintro e w2 ⟨rfl, r2, b2⟩; have R2 := Lib.hid r2; have B2 := Lib.hid (B1.out.trans (b2.mono H0.out.size)); clear b2 r2))
    | fail)
  go_ret
  exact ⟨⟨_, _, rfl, R2.out⟩, B2.out⟩
set_option maxRecDepth 100000 in
set_option maxHeartbeats 8000000 in
theorem adds_few (A B : Option Addr) (m cap k dap : Nat) (ys zs : List MG) (n1 n2 : Nat) (w : World) (hmn : min n1 30 = m) (hkn : min n2 30 = k) (hnc : n1 ≤ cap) (hc : cap ≤ 9223372036854775807) (hnd : n2 ≤ dap) (hd : dap ≤ 9223372036854775807) (hl : ys.length = m) (hk : zs.length = k) (hA : EG.Rd w A ys) (hB : EG.Rd w B zs) (ho : OkA ys) :
    Calls Try.prog 4 #[.slice A n1 cap, .slice B n2 dap] w fun r w' => r = .returned (.bool true) ∧ Below w.heap.size w w' := by
  have hm : m ≤ 30 := by have := min_le30 n1; omega
  have hk30 : k ≤ 30 := by have := min_le30 n2; omega
  have AF1 := Lib.hid (few_any A n1 cap w hnc hc)
  have AF2 := Lib.hid (few_any B n2 dap w hnd hd)
  rw [hmn] at AF1
  rw [hkn] at AF2
  obtain ⟨q, hq⟩ : ∃ q, rightB ys = q := ⟨_, rfl⟩
  have AQ := Lib.hid (rright_all A m cap ys w hl (by omega) hA ho)
  rw [hq] at AQ
  have AB := Lib.hid (fun W (hW : Below w.heap.size w W) => badd_any A B m cap k dap ys zs W hl hk (by omega) (by omega) (hA.later hW) (hB.later hW))
  have AR := Lib.hid (fun W (hW : Below w.heap.size w W) => radd_any A B m cap k dap ys zs W hl hk (by omega) (hA.later hW) (hB.later hW))
  have HX := Lib.hid (show (stab (ys ++ zs)).length = m + k by rw [stab_len, List.length_append, hl, hk])
  have HS := Lib.hid (srt_stab (ys ++ zs))
  have e1 : accM [] (ys ++ zs) = stab (ys ++ zs) := rfl
  rw [e1] at AR
  obtain ⟨L, hL⟩ : ∃ L, stab (ys ++ zs) = L := ⟨_, rfl⟩
  rw [hL] at AB AR HX HS
  obtain ⟨n, hn⟩ : ∃ n, m + k = n := ⟨_, rfl⟩
  have en : (m : Int) + (k : Int) = (n : Int) := by omega
  have hn60 : n ≤ 60 := by omega
  unfold SomeOf at AR
  rw [HX.out] at AR
  rw [hn] at AB HX AR
  clear hmn hkn hnc hc hnd hd hl hk hA hB ho e1 hL hq hn
  go_enter Try.func4, Try.ntmps4
  cases q
  · go_wp2_with (first
      | (go_at_call 8; ((with_reducible refine AF1.out.mono ?_); rintro e w1 ⟨rfl, rfl⟩))
      | (go_at_call 8; ((with_reducible refine AF2.out.mono ?_); rintro e w1 ⟨rfl, rfl⟩))
      | (go_at_call 10; ((with_reducible refine AQ.out.mono ?_); rintro e w2 ⟨rfl, b2⟩; have B2 := Lib.hid b2; clear b2))
      | (go_at_call 11; ((with_reducible refine (live_true _).mono ?_); rintro e w3 ⟨rfl, b3⟩; have B3 := Lib.hid (bel_trans B2.out b3); clear b3))
      | fail)
    go_ret
    exact ⟨rfl, B3.out⟩
  · go_wp2_with (first
      | (go_at_call 8; ((with_reducible refine AF1.out.mono ?_); rintro e w1 ⟨rfl, rfl⟩))
      | (go_at_call 8; ((with_reducible refine AF2.out.mono ?_); rintro e w1 ⟨rfl, rfl⟩))
      | (go_at_call 10; ((with_reducible refine AQ.out.mono ?_); rintro e w2 ⟨rfl, b2⟩; have B2 := Lib.hid b2; clear b2))
      | (go_at_call 20; ((with_reducible refine (AB.out _ B2.out).mono ?_); rintro e w3 ⟨⟨A3, q3, rfl, r3⟩, b3⟩; have R3 := Lib.hid r3; have B3 := Lib.hid (bel_trans B2.out b3); clear b3 r3))
      | (go_at_call 21; ((with_reducible refine (AR.out _ B3.out).mono ?_); rintro e w4 ⟨⟨b4, o4, q4, rfl, r4, -, -⟩, bb4⟩; have R4 := Lib.hid r4; replace R3 := Lib.hid (R3.out.later bb4); have B4 := Lib.hid (bel_trans B3.out bb4); clear bb4 r4))
      | (go_at_call 14; ((with_reducible refine (same_any A3 (some ⟨b4, o4, none⟩) n q3 q4 L _ HX.out (by omega) R3.out R4.out).mono ?_); rintro e w5 ⟨rfl, b5⟩; replace R3 := Lib.hid (R3.out.later b5); have B5 := Lib.hid (bel_trans B4.out b5); clear b5))
      | fail)
    go_loopw [6] (fun iv wr => ∃ (i : Nat), 1 ≤ i ∧ (i ≤ n ∨ i = 1) ∧ iv = .int .i64 i ∧ Below w5.heap.size w5 wr) (fun i _ => n + 1 - (intOf i).toNat)
    case atStart => exact ⟨1, Nat.le_refl _, .inr rfl, rfl, Below.refl _ _⟩
    case round =>
      obtain ⟨i, hi1, hi2, rfl, hb⟩ := hrel
      have HB := Lib.hid hb
      clear hb
      by_cases h8 : i < n
      · have k1 : (i : Int) < (n : Int) := by omega
        obtain ⟨p, hp⟩ : ∃ p, i = p + 1 := ⟨i - 1, by omega⟩
        have wq1 : IntKind.i64.wrap ((i : Int) - 1) = (i : Int) - 1 := IntWalk.i64_in _ (by omega)
        have e1 : (i : Int) - 1 = (p : Int) := by omega
        have p0 : (0 : Int) ≤ (p : Int) := by omega
        have pn : (p : Int) < (n : Int) := by omega
        have pnn : p < n := by omega
        have wq2 : IntKind.i64.wrap (p : Int) = (p : Int) := IntWalk.i64_in _ (by omega)
        have k2 : (1 : Int) ≤ (i : Int) := by omega
        have k3 : (i : Int) < (n : Int) + 1 := by omega
        have k4 : (0 : Int) ≤ (i : Int) := by omega
        obtain ⟨x, hx⟩ : ∃ x, L[i]? = some x := ⟨_, List.getElem?_eq_getElem (by clear wq1 wq2; have := HX.out; omega)⟩
        obtain ⟨y, hy⟩ : ∃ y, L[p]? = some y := ⟨_, List.getElem?_eq_getElem (by clear wq1 wq2; have := HX.out; omega)⟩
        have HAH := Lib.hid (show aheadM x y = false by clear wq1 wq2; exact srt_get HS.out (by omega) hy hx)
        obtain ⟨b, off, rfl, hlt, c0, c1, c2, c3, c4, c5⟩ := eg_at (R3.out.later HB.out) hx
        obtain ⟨b', off', e9, hlt', g0, g1, g2, g3, g4, g5⟩ := eg_at (R3.out.later HB.out) hy
        cases e9
        have AA := Lib.hid (ahead_any x y)
        rw [HAH.out] at AA
        have KS := Lib.hid (show ∀ W, Below wr.heap.size wr W → Below wr.heap.size wr W ∧ W.cell? ⟨b, off + i * 6, none⟩ = some (.int .u8 x.kd) ∧ W.cell? ⟨b, off + i * 6 + 1, none⟩ = some (.int .i64 x.sq) ∧ W.cell? ⟨b, off + i * 6 + 2, none⟩ = some (.string x.ky) ∧ W.cell? ⟨b, off + i * 6 + 3, none⟩ = some (.string x.to) ∧ W.cell? ⟨b, off + i * 6 + 4, none⟩ = some (.string x.vl) ∧ W.cell? ⟨b, off + i * 6 + 5, none⟩ = some (.int .u64 x.dl) ∧ W.cell? ⟨b, off + p * 6, none⟩ = some (.int .u8 y.kd) ∧ W.cell? ⟨b, off + p * 6 + 1, none⟩ = some (.int .i64 y.sq) ∧ W.cell? ⟨b, off + p * 6 + 2, none⟩ = some (.string y.ky) ∧ W.cell? ⟨b, off + p * 6 + 3, none⟩ = some (.string y.to) ∧ W.cell? ⟨b, off + p * 6 + 4, none⟩ = some (.string y.vl) ∧ W.cell? ⟨b, off + p * 6 + 5, none⟩ = some (.int .u64 y.dl) from fun W h => ⟨h, bel_later h c0, bel_later h c1, bel_later h c2, bel_later h c3, bel_later h c4, bel_later h c5, bel_later h g0, bel_later h g1, bel_later h g2, bel_later h g3, bel_later h g4, bel_later h g5⟩)
        clear hx hy hlt hlt' hp
        go_wp2_with fail
        clear c0 c1 c2 c3 c4 c5 g0 g1 g2 g3 g4 g5
        go_region_held3 (fun W => Below wr.heap.size wr W ∧ W.cell? ⟨b, off + i * 6, none⟩ = some (.int .u8 x.kd) ∧ W.cell? ⟨b, off + i * 6 + 1, none⟩ = some (.int .i64 x.sq) ∧ W.cell? ⟨b, off + i * 6 + 2, none⟩ = some (.string x.ky) ∧ W.cell? ⟨b, off + i * 6 + 3, none⟩ = some (.string x.to) ∧ W.cell? ⟨b, off + i * 6 + 4, none⟩ = some (.string x.vl) ∧ W.cell? ⟨b, off + i * 6 + 5, none⟩ = some (.int .u64 x.dl) ∧ W.cell? ⟨b, off + p * 6, none⟩ = some (.int .u8 y.kd) ∧ W.cell? ⟨b, off + p * 6 + 1, none⟩ = some (.int .i64 y.sq) ∧ W.cell? ⟨b, off + p * 6 + 2, none⟩ = some (.string y.ky) ∧ W.cell? ⟨b, off + p * 6 + 3, none⟩ = some (.string y.to) ∧ W.cell? ⟨b, off + p * 6 + 4, none⟩ = some (.string y.vl) ∧ W.cell? ⟨b, off + p * 6 + 5, none⟩ = some (.int .u64 y.dl)) (first | exact KS.out _ ((Below.refl _ _).drew) | exact KS.out _ (bel_trans (And.left ‹_›) ‹_›) | (trace_state; fail)) (first
          | (go_at_call 22; ((with_reducible refine (AA.out _).mono ?_); rintro e w1 ⟨rfl, b1⟩)))
        rename_i hH
        have HW1 := Lib.hid (bel_trans HB.out hH.1)
        clear hH
        go_wp2
        clear wq1 wq2
        exact ⟨⟨i + 1, by omega, .inl (by omega), by simp, HW1.out⟩, by simp [intOf]; omega⟩
      · have k1 : ¬ (i : Int) < (n : Int) := by omega
        have B6 := Lib.hid (bel_trans B5.out HB.out)
        go_wp2_with (first
          | (go_at_call 11; ((with_reducible refine (live_true _).mono ?_); rintro e w6 ⟨rfl, b6⟩; have B7 := Lib.hid (bel_trans B6.out b6); clear b6))
          | fail)
        go_ret
        exact ⟨rfl, B7.out⟩
theorem adds_law (A B : Option Addr) (n cap n2 dap : Nat) (xs zs : List MG) (w : World) (hnc : n ≤ cap) (hc : cap ≤ maxLen) (hl : xs.length = n) (hA : EG.Rd w A xs) (ho : OkA xs) (hnd : n2 ≤ dap) (hd : dap ≤ maxLen) (hk : zs.length = n2) (hB : EG.Rd w B zs) :
    Calls Try.prog 4 #[.slice A n cap, .slice B n2 dap] w fun r w' => r = .returned (.bool true) ∧ Below w.heap.size w w' :=
  adds_few A B (min n 30) cap (min n2 30) dap (xs.take (min n 30)) (zs.take (min n2 30)) n n2 w rfl rfl hnc (by unfold maxLen at hc; omega) hnd (by unfold maxLen at hd; omega) (by rw [List.length_take, hl]; omega) (by rw [List.length_take, hk]; omega) (hA.take _) (hB.take _) (fun x hx => ho x (List.mem_of_mem_take hx))
end Go.Proofs.Ytdbnkeihnoglcaa
