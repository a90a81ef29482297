/- The document's Pack. -/
import Derived.Test.YteiifcmdpoonmaaP8
namespace Go.Proofs.Yteiifcmdpoonmaa
set_option linter.unusedSimpArgs false
open Go.RowKit Go.Maps Go.Shelf
set_option linter.unusedVariables false
theorem last_at {xs : List TT} {k : Nat} {y : TT} (h : xs[k]? = some y) : lastK ⟨#[]⟩ (xs.take (k + 1)) = y.1 := by
  rw [take_snoc h, lastK_snoc]
theorem sh_nil (b : ByteArray) : shB ⟨#[]⟩ b = 0 := by
  unfold shB
  have e0 : (⟨#[]⟩ : ByteArray).toList = [] := by rw [ByteArray.toList_eq]
  rw [e0]; cases b.toList <;> rfl
theorem mk_app (L : List UInt8) (t : ByteArray) : (⟨L.toArray⟩ : ByteArray) ++ t = ⟨(L ++ t.data.toList).toArray⟩ := by
  apply ByteArray.ext; simp
theorem mk_size (L : List UInt8) : (⟨L.toArray⟩ : ByteArray).size = L.length := rfl
set_option maxRecDepth 100000 in
set_option maxHeartbeats 8000000 in
theorem refPack_in (A : Option Addr) (n c : Nat) (xs : List TT) (w : World) (hl : xs.length = n) (hn : n ≤ 1000000) (hA : RdT w A xs) (hz : ∀ x ∈ xs, x.1.size ≤ 1000000 ∧ x.2.size ≤ 1000000) (hr : ris xs) :
    Calls Try.prog 14 #[.slice A n c] w fun e w' => e = .returned (.string ⟨(pkB xs).toArray⟩) ∧ Below w.heap.size w w' := by
  have HL := Lib.hid hl
  have HZ := Lib.hid hz
  have HA : Hid (∀ W, Below w.heap.size w W → RdT W A xs) := Lib.hid (fun W hW => rdt_later hA hW)
  have RI : Hid (Calls Try.prog 7 #[.slice A n c] w fun e w' => e = .returned (.bool true) ∧ Below w.heap.size w w') := Lib.hid ((refRises_any A n c xs w hl (by omega) hA).mono (fun e w' h => by
    obtain ⟨⟨b, rfl, hb⟩, h2⟩ := h
    rw [hb.2 hr]; exact ⟨rfl, h2⟩))
  obtain ⟨tl, htl⟩ : ∃ t, t = numF (n : Int) := ⟨_, rfl⟩
  have hts := numF_size (n : Int)
  rw [← htl] at hts
  have NL : Hid (∀ W, Calls Try.prog 31 #[.int .i64 n] W fun e w' => e = .returned (.string tl) ∧ Below W.heap.size W w') := Lib.hid (fun W => by rw [htl]; exact rnum_any n W)
  have HTL : Hid (∀ l, (numF (xs.length : Int)).data.toList ++ l = tl.data.toList ++ l) := Lib.hid (fun l => by rw [htl, hl])
  have HTS := Lib.hid hts
  have HT0 : Hid (tl = ⟨(tl.data.toList ++ pkL ⟨#[]⟩ (xs.take 0)).toArray⟩) := Lib.hid (by apply ByteArray.ext; simp [pkL, runE])
  clear hl hz hA htl hts
  go_enter Try.func14, Try.ntmps14
  go_wp2_with (first
    | (go_at_call 7; ((with_reducible refine RI.out.mono ?_); rintro e w1 ⟨rfl, b1⟩; have B1 := Lib.hid b1; clear b1))
    | (go_at_call 31; ((with_reducible refine (NL.out _).mono ?_); rintro e w2 ⟨rfl, b2⟩; have B2 := Lib.hid (bel_trans B1.out b2); clear b2))
    | fail)
  go_loopw [3, 4] (fun ov iv wr => ∃ (k : Nat) (O : ByteArray), k ≤ n ∧ iv = .int .i64 k ∧ ov = .string O ∧ O = ⟨(tl.data.toList ++ pkL ⟨#[]⟩ (xs.take k)).toArray⟩ ∧ Below w.heap.size w wr) (fun _ i _ => n - (intOf i).toNat)
  case atStart => exact ⟨0, tl, by omega, rfl, rfl, HT0.out, B2.out⟩
  case round =>
    obtain ⟨k, O, hk, rfl, rfl, hO, hb⟩ := hrel
    have HO := Lib.hid hO
    have HB := Lib.hid hb
    clear hO hb
    by_cases h8 : k < n
    · have hk1 : (k : Int) < (n : Int) := by omega
      have hk0 : (0 : Int) ≤ (k : Int) := by omega
      obtain ⟨x, hx⟩ : ∃ x, xs[k]? = some x := ⟨_, List.getElem?_eq_getElem (by rw [HL.out]; omega)⟩
      obtain ⟨b, off, rfl, hlt, g0, g1⟩ := rdt_get (HA.out wr HB.out) hx
      have hst := pk_step hx
      have hlen := pkL_len ⟨#[]⟩ (xs.take k) 1000000 (fun y hy => HZ.out y (List.mem_of_mem_take hy))
      have hlt2 : (xs.take k).length ≤ k := by simp; omega
      have hzx := HZ.out x (List.mem_of_getElem? hx)
      have hprev : 0 < k → ∃ y, xs[k - 1]? = some y ∧ lastK ⟨#[]⟩ (xs.take k) = y.1 := fun hp => by
        obtain ⟨y, hy⟩ : ∃ y, xs[k - 1]? = some y := ⟨_, List.getElem?_eq_getElem (by rw [HL.out]; omega)⟩
        have := last_at hy
        rw [show k - 1 + 1 = k by omega] at this
        exact ⟨y, hy, this⟩
      have hzero : k = 0 → lastK ⟨#[]⟩ (xs.take k) = ⟨#[]⟩ := fun h => by rw [h]; rfl
      obtain ⟨a, ha⟩ : ∃ a, a = lastK ⟨#[]⟩ (xs.take k) := ⟨_, rfl⟩
      have hza : a.size ≤ 1000000 := by rw [ha]; exact lastK_size _ (fun y hy => (HZ.out y (List.mem_of_mem_take hy)).1)
      rw [← ha] at hst hprev hzero
      obtain ⟨x0, x1⟩ := x
      simp only at g0 g1 hst hzx
      have hhl := shB_le a x0
      have sh := refShared_any a x0
      obtain ⟨h, hh⟩ : ∃ h, h = shB a x0 := ⟨_, rfl⟩
      have hh0 : k = 0 → h = 0 := fun e => by rw [hh, hzero e]; exact sh_nil x0
      rw [← hh] at hst hhl
      have SH : Hid (∀ W, Calls Try.prog 24 #[.string a, .string x0] W fun e w' => e = .returned (.int .i64 h) ∧ Below W.heap.size W w') := Lib.hid (fun W => by rw [hh]; exact sh W (by unfold maxLen; omega) (by unfold maxLen; omega))
      obtain ⟨t, ht⟩ : ∃ t, t = numF (h : Int) := ⟨_, rfl⟩
      have hts := numF_size (h : Int)
      have tex := cat_size [x0.extract h x0.size, x1] 1000000 (by
        intro s hs
        simp only [List.mem_cons, List.not_mem_nil, or_false] at hs
        rcases hs with rfl | rfl
        · exact Nat.le_trans (ext_size _ _) hzx.1
        · exact hzx.2)
      have htx : ∀ s ∈ [x0.extract h x0.size, x1], s.size ≤ 1000000 := by
        intro s hs
        simp only [List.mem_cons, List.not_mem_nil, or_false] at hs
        rcases hs with rfl | rfl
        · exact Nat.le_trans (ext_size _ _) hzx.1
        · exact hzx.2
      rw [← ht] at hts hst
      have NM : Hid (∀ W, Calls Try.prog 31 #[.int .i64 h] W fun e w' => e = .returned (.string t) ∧ Below W.heap.size W w') := Lib.hid (fun W => by rw [ht]; exact rnum_any (h : Int) W)
      obtain ⟨u, hu⟩ : ∃ u, u = cat [x0.extract h x0.size, x1] := ⟨_, rfl⟩
      have hul : ([x0.extract h x0.size, x1] : List ByteArray).length = 2 := rfl
      rw [hul] at tex
      rw [← hu] at hst tex
      obtain ⟨uB, huB⟩ : ∃ uB : ByteArray, ⟨u.toArray⟩ = uB := ⟨_, rfl⟩
      have TX : Hid (∀ W : World, ∀ B, Rd W W.heap.size (some ⟨B, 0, none⟩) ([x0.extract h x0.size, x1].map Value.string) → Calls Try.prog 32 #[.slice (some ⟨B, 0, none⟩) 2 2] W fun e w' => e = .returned (.string uB) ∧ Below W.heap.size W w') := Lib.hid (fun W B hB => by rw [← huB, hu]; exact rtexts_any _ 2 2 [x0.extract h x0.size, x1] W rfl (by omega) hB htx)
      obtain ⟨L, hL⟩ : ∃ L, L = tl.data.toList ++ pkL ⟨#[]⟩ (xs.take k) := ⟨_, rfl⟩
      have hLl : L.length ≤ 5 + 1000000 * 2000015 := by
        have h1 := HTS.out
        have h2 : tl.data.toList.length = tl.size := by simp
        have h3 : (xs.take k).length * (15 + 2 * 1000000) ≤ 1000000 * 2000015 := Nat.mul_le_mul (by omega) (by omega)
        rw [hL, List.length_append, h2]; omega
      have hO2 : O = ⟨L.toArray⟩ := by rw [HO.out, hL]
      have hOs : O.size = L.length := by rw [hO2]; rfl
      have hus : uB.size = u.length := by rw [← huB]; rfl
      obtain ⟨o2, ho2⟩ : ∃ o2, O ++ t = o2 := ⟨_, rfl⟩
      obtain ⟨o3, ho3⟩ : ∃ o3, o2 ++ uB = o3 := ⟨_, rfl⟩
      have ho2s : o2.size = O.size + t.size := by rw [← ho2, ByteArray.size_append]
      have z1 : ¬ 9223372036854775807 < O.size + t.size := by omega
      have z2 : ¬ 9223372036854775807 < o2.size + uB.size := by omega
      have HO3 : Hid (o3 = ⟨(tl.data.toList ++ pkL ⟨#[]⟩ (xs.take (k + 1))).toArray⟩) := Lib.hid (by
        have e : tl.data.toList ++ pkL ⟨#[]⟩ (xs.take (k + 1)) = L ++ t.data.toList ++ u := by rw [hst.1, hL]; simp
        rw [e, ← ho3, ← ho2, ← huB, hO2, mk_app, mk_app])
      have hn9 : (h : Int) ≤ (x0.size : Int) := by omega
      have hn8 : (0 : Int) ≤ (h : Int) := by omega
      have HH0 := Lib.hid hh0
      have HPV := Lib.hid hprev
      clear hst hlen hlt2 hzx ha hza hhl sh hh ht hts tex htx hu hul hL hLl hx hlt hO2 hOs hus ho2s huB hh0 hprev hzero
      by_cases hk00 : k = 0
      · obtain rfl := HH0.out hk00
        subst hk00
        have ex : x0.extract 0 x0.size = x0 := by simp
        rw [ex] at TX
        have d0 : wr.cell? ⟨b, off, none⟩ = some (.string x0) := by simpa using g0
        have d1 : wr.cell? ⟨b, off + 1, none⟩ = some (.string x1) := by simpa using g1
        have G0 := Lib.hid d0
        have G1 := Lib.hid d1
        go_wp2_with fail
        go_region_law (first
          | (go_simp; go_at_call 31; refine (NM.out wr.drew).mono ?_; rintro e w2 ⟨rfl, b2⟩; have B2 := Lib.hid (bel_dr b2); have f0 := bel_later B2.out G0.out; have f1 := bel_later B2.out G1.out; have f2 := bel_later (alb w2 (.cells #[.string x0, .string x1] 9)) f0; clear b2)
          | (go_simp; go_at_call 31; refine (NM.out (wr.alloc (.cells #[.string x0, .string x1] 9)).drew).mono ?_; rintro e w2 ⟨rfl, b2⟩; have B2 := Lib.hid (bel_ac b2); have f0 := bel_later B2.out G0.out; have f1 := bel_later B2.out G1.out; have RX := Lib.hid (Rd.later (rd_drew (lit2_rd wr 9 x0 x1)) b2); clear b2)
          | (go_simp; go_at_call 32; refine (TX.out _ _ RX.out).mono ?_; rintro e w4 ⟨rfl, b4⟩; have B4 := Lib.hid (bel_trans B2.out b4); clear b4)
          | (go_simp; go_at_call 32; refine (TX.out _ _ (lit2_rd w2 9 x0 x1)).mono ?_; rintro e w4 ⟨rfl, b4⟩; have B4 := Lib.hid (bel_trans B2.out (bel_a b4)); clear b4)
          | fail)
        all_goals
          go_wp2
        all_goals
          exact ⟨⟨0 + 1, o3, by omega, by simp, rfl, HO3.out, bel_trans HB.out B4.out⟩, by simp [intOf]; omega⟩
      · obtain ⟨y, hy, rfl⟩ := HPV.out (by omega)
        have i2 : (0 : Int) < (k : Int) := by omega
        obtain ⟨j, hj⟩ : ∃ j, j = k - 1 := ⟨_, rfl⟩
        have i4 : IntKind.i64.wrap ((k : Int) - 1) = (j : Int) := by rw [IntKind.wrap_i64]; omega
        have i5 : (j : Int) < (n : Int) := by omega
        rw [← hj] at hy
        clear hj
        obtain ⟨b2, off2, e2, hlt2, p0, p1⟩ := rdt_get (HA.out wr HB.out) hy
        cases e2
        have G0' := Lib.hid g0
        have G1' := Lib.hid g1
        clear hy p1
        go_wp2_with fail
        go_region_law (first
          | (go_simp; go_at_call 24; refine (SH.out wr.drew).mono ?_; rintro e wv ⟨rfl, bv⟩; have BV := Lib.hid (bel_dr bv); have G0 := Lib.hid (bel_later BV.out G0'.out); have G1 := Lib.hid (bel_later BV.out G1'.out); have c0 := G0.out; have c1 := G1.out; clear bv)
          | fail)
        all_goals
          go_wp2_with fail
          go_region_law (first
            | (go_simp; go_at_call 31; refine (NM.out wv.drew).mono ?_; rintro e w2 ⟨rfl, b2⟩; have B2 := Lib.hid (bel_dr b2); have f0 := bel_later B2.out G0.out; have f1 := bel_later B2.out G1.out; have f2 := bel_later (alb w2 (.cells #[.string (x0.extract h x0.size), .string x1] 9)) f0; clear b2)
            | (go_simp; go_at_call 31; refine (NM.out (wv.alloc (.cells #[.string (x0.extract h x0.size), .string x1] 9)).drew).mono ?_; rintro e w2 ⟨rfl, b2⟩; have B2 := Lib.hid (bel_ac b2); have f0 := bel_later B2.out G0.out; have f1 := bel_later B2.out G1.out; have RX := Lib.hid (Rd.later (rd_drew (lit2_rd wv 9 (x0.extract h x0.size) x1)) b2); clear b2)
            | (go_simp; go_at_call 32; refine (TX.out _ _ RX.out).mono ?_; rintro e w4 ⟨rfl, b4⟩; have B4 := Lib.hid (bel_trans B2.out b4); clear b4)
            | (go_simp; go_at_call 32; refine (TX.out _ _ (lit2_rd w2 9 (x0.extract h x0.size) x1)).mono ?_; rintro e w4 ⟨rfl, b4⟩; have B4 := Lib.hid (bel_trans B2.out (bel_a b4)); clear b4)
            | fail)
          all_goals
            go_wp2
          all_goals
            exact ⟨⟨k + 1, o3, by omega, by simp, rfl, HO3.out, bel_trans HB.out (bel_trans BV.out B4.out)⟩, by simp [intOf]; omega⟩
    · obtain rfl : k = n := by omega
      have hk1 : ¬ (k : Int) < (k : Int) := by omega
      have he : xs.take k = xs := by rw [← HL.out]; exact List.take_length
      have hpk : pkB xs = tl.data.toList ++ pkL ⟨#[]⟩ xs := HTL.out _
      have HPK : Hid (O = ⟨(pkB xs).toArray⟩) := Lib.hid (by rw [HO.out, he, hpk])
      clear he hpk
      go_wp2
      go_ret
      exact ⟨by rw [← HPK.out]; rfl, HB.out⟩
theorem refPack_not (A : Option Addr) (n c : Nat) (xs : List TT) (w : World) (hl : xs.length = n) (hn : n ≤ 1000000) (hA : RdT w A xs) (hr : ¬ ris xs) :
    Calls Try.prog 14 #[.slice A n c] w fun e w' => e = .returned (.string ⟨#[]⟩) ∧ Below w.heap.size w w' := by
  have RI : Hid (Calls Try.prog 7 #[.slice A n c] w fun e w' => e = .returned (.bool false) ∧ Below w.heap.size w w') := Lib.hid ((refRises_any A n c xs w hl (by omega) hA).mono (fun e w' h => by
    obtain ⟨⟨b, rfl, hb⟩, h2⟩ := h
    cases b with
    | false => exact ⟨rfl, h2⟩
    | true => exact absurd (hb.1 rfl) hr))
  clear hl hA
  go_enter Try.func14, Try.ntmps14
  go_wp2_with (first
    | (go_at_call 7; ((with_reducible refine RI.out.mono ?_); rintro e w1 ⟨rfl, b1⟩; have B1 := Lib.hid b1; clear b1))
    | fail)
  go_ret
  exact ⟨rfl, B1.out⟩
theorem refPack_any (A : Option Addr) (n c : Nat) (xs : List TT) (w : World) (hl : xs.length = n) (hn : n ≤ 1000000) (hA : RdT w A xs) (hz : ris xs → ∀ x ∈ xs, x.1.size ≤ 1000000 ∧ x.2.size ≤ 1000000) :
    Calls Try.prog 14 #[.slice A n c] w fun e w' => e = .returned (.string (pkF xs)) ∧ Below w.heap.size w w' := by
  by_cases hr : ris xs
  · have e : pkF xs = ⟨(pkB xs).toArray⟩ := by unfold pkF; rw [if_pos hr]
    rw [e]; exact refPack_in A n c xs w hl hn hA (hz hr) hr
  · have e : pkF xs = ⟨#[]⟩ := by unfold pkF; rw [if_neg hr]
    rw [e]; exact refPack_not A n c xs w hl hn hA hr
end Go.Proofs.Yteiifcmdpoonmaa
