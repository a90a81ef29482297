/- An operation of good form. -/
import Derived.Test.YtelpkajlejbbgaaGreatDoorTt11
import Derived.Test.YtelpkajlejbbgaaGreatDoorTt17
set_option linter.unusedVariables false
set_option linter.unusedSimpArgs false
namespace Go.Proofs.YtelpkajlejbbgaaGreatDoor
open Go.RowKit Go.Maps
/-- A message, an operation, of good form. -/
def MFm (m : M) : Prop := m.q = 0 ∧ mF m.k m.dl 2147483647 2147483647 m.key m.too m.val ≠ 3
structure OFm (o : OpV) : Prop where
  n : inR o.n = true
  p : opureB o.k o.n o.key o.too o.ms.length = true
  ms : ∀ m ∈ o.ms, MFm m
theorem fe_fm : ∀ (l : List M), (∀ m ∈ l, MFm m) → fe 2147483647 2147483647 l ≠ 3
  | [], _ => by unfold fe; decide
  | m :: l, h => by
    unfold fe
    split
    · exact fe_fm l (fun x hx => h x (List.mem_cons_of_mem _ hx))
    · exact (h m (by simp)).2
theorem ask_fm {o : OpV} (h : OFm o) : askF o.k o.n 2147483647 2147483647 2147483647 o.key o.too o.ms.length o.ms ≠ 3 := by
  have h3 := fe_fm o.ms h.ms
  unfold askF
  rw [if_neg (by rw [h.p]; decide)]
  have ar : ∀ k : Int, arF k o.n 2147483647 2147483647 o.key o.too ≠ 3 := by
    intro k
    unfold arF
    repeat' split
    all_goals decide
  split
  · split <;> decide
  split
  · unfold abF
    split
    · decide
    · split
      · exact h3
      · rename_i hq
        exfalso
        apply hq
        rw [List.all_eq_true]
        intro m hm
        simpa using (h.ms m hm).1
  split
  · exact ar 3
  split
  · exact ar 4
  · decide
theorem msl_of {w : World} {A : Option Addr} {l : List M} (h : EM.Rd w A l) : MsL w w.heap.size A l := by
  rcases h with h | ⟨b, off, e, hlt, hc⟩
  · exact .inl (EM.all_empty h)
  · refine .inr ⟨b, off, e, hlt, fun j hj => ?_⟩
    have hx : l[j]? = some l[j] := List.getElem?_eq_getElem hj
    have q : ∀ i u, (EM.cs l[j])[i]? = some u → w.cell? ⟨b, off + j * 6 + i, none⟩ = some u := fun i u hu => by
      have := hc _ u (EM.all_get hx hu)
      rw [← Nat.add_assoc] at this
      exact this
    exact ⟨q 0 _ rfl, q 1 _ rfl, q 2 _ rfl, q 3 _ rfl, q 4 _ rfl, q 5 _ rfl⟩
theorem gw_cells {w : World} (h : GW w) : w.cell? ⟨0, 0, none⟩ = some (.int .i64 2147483647) ∧ w.cell? ⟨0, 1, none⟩ = some (.int .i64 2147483647) ∧ w.cell? ⟨0, 2, none⟩ = some (.int .i64 0) ∧ w.cell? ⟨0, 3, none⟩ = some (.int .i64 0) ∧ w.cell? ⟨0, 4, none⟩ = some (.int .i64 0) ∧ w.cell? ⟨0, 5, none⟩ = some (.int .i64 0) ∧ w.cell? ⟨0, 6, none⟩ = some (.int .i64 0) ∧ w.cell? ⟨0, 7, none⟩ = some (.int .i64 0) ∧ w.cell? ⟨0, 8, none⟩ = some (.int .i64 2147483647) :=
  ⟨h.an 0 _ rfl, h.an 1 _ rfl, h.an 2 _ rfl, h.an 3 _ rfl, h.an 4 _ rfl, h.an 5 _ rfl, h.an 6 _ rfl, h.an 7 _ rfl, h.an 8 _ rfl⟩
set_option maxHeartbeats 4000000 in
set_option maxRecDepth 100000 in
theorem formed_ok (o : OpV) (A : Option Addr) (c : Nat) (w : World) (hg : GW w) (ho : OFm o) (hA : EM.Rd w A o.ms) (hm : o.ms.length ≤ 900000) :
    Calls Tryz.prog 48 #[o.v A c] w fun e w' => e = .returned (.bool true) ∧ Below w.heap.size w w' := by
  have hask := ask_fm ho
  obtain ⟨hn, hp, hms⟩ := ho
  obtain ⟨k, key, too, n, ms⟩ := o
  simp only at hask hn hp hms hA hm
  unfold OpV.v
  simp only
  obtain ⟨m, hml⟩ : ∃ m, ms.length = m := ⟨_, rfl⟩
  rw [hml] at hm hask ⊢
  obtain ⟨a, ha⟩ : ∃ a, askF k n 2147483647 2147483647 2147483647 key too m ms = a := ⟨_, rfl⟩
  rw [ha] at hask
  have AK : ∀ W, EM.Rd W A ms → Calls Tryz.prog 31 #[.agg #[.int .u8 k, .string key, .string too, .int .i64 n, .slice A m c], cfg 2147483647 2147483647 0 0 0 0 0 0 2147483647] W fun e w' => e = .returned (.int .i64 a) ∧ Below W.heap.size W w' := fun W hW => by
    have := ask_any k n 2147483647 2147483647 0 0 0 0 0 0 2147483647 key too A m c ms W hml (msl_of hW)
    rw [ha] at this
    exact this
  have HAK := Lib.hid AK
  have HR : Hid (∀ W, Calls Tryz.prog 47 #[.int .i64 n] W fun e w' => e = .returned (.bool true) ∧ w' = W) := Lib.hid (fun W => by have := inR_any n W; rw [hn] at this; exact this)
  have HG := Lib.hid (GB.of hg)
  have HM := Lib.hid (And.intro hml hm)
  have HA := Lib.hid hA
  have HMS := Lib.hid hms
  have HK3 := Lib.hid hask
  have h0 : 0 < w.heap.size := World.block_lt_of_cell? w _ (gw_cells hg).1
  have H0 := Lib.hid h0
  clear AK hn hp hms hA hg ha hml hm hask h0
  obtain ⟨W0, hW0⟩ : ∃ W0, W0 = w.alloc (.cells #[.int .u8 k, .string key, .string too, .int .i64 n, .slice A m c] 47) := ⟨_, rfl⟩
  have B0 := Lib.hid (show Below w.heap.size w W0 by rw [hW0]; exact alb w _)
  have Z0 := Lib.hid (show W0.heap[w.heap.size]? = some (.cells #[.int .u8 k, .string key, .string too, .int .i64 n, .slice A m c] 47) by rw [hW0]; exact heap_alloc_new w _)
  have HS := Lib.hid (show W0.heap.size = w.heap.size + 1 by rw [hW0]; simp)
  obtain ⟨c0, c1, c2, c3, c4⟩ := cells5 Z0.out
  go_enter Tryz.func48, Tryz.ntmps48
  go_upto_region 1 with fail
  rw [← hW0]
  clear hW0
  go_upto_region 2 with fail
  clear c0 c1 c2 c3 c4
  go_loopw [8] (fun iv wr => ∃ i : Nat, i ≤ m ∧ iv = .int .i64 i ∧ Below W0.heap.size W0 wr) (fun iv _ => m - (intOf iv).toNat)
  case atStart => exact ⟨0, by omega, rfl, Below.refl _ _⟩
  case round =>
    obtain ⟨i, hi, rfl, hbw⟩ := hrel
    have HBr := Lib.hid hbw
    have HB := Lib.hid (bel_trans B0.out hbw)
    clear hbw
    have hNN := HM.out
    by_cases h8 : i < m
    · have hk1 : (i : Int) < (m : Int) := by omega
      have hk0 : (0 : Int) ≤ (i : Int) := by omega
      have WK : IntKind.i64.wrap ((i : Int) + 1) = (i : Int) + 1 := IntWalk.i64_in _ (by omega)
      obtain ⟨x, hx⟩ : ∃ x, ms[i]? = some x := ⟨_, List.getElem?_eq_getElem (by omega)⟩
      obtain ⟨b2, off, rfl, hlt, hc⟩ := (HA.out.later HB.out).get hx
      obtain ⟨hq, hf⟩ := HMS.out x (List.mem_of_getElem? hx)
      obtain ⟨mk, mq, mkey, mtoo, mval, mdl⟩ := x
      simp only at hq hf
      subst hq
      have g0 : wr.cell? ⟨b2, off + i * 6, none⟩ = some (.int .u8 mk) := hc 0 _ rfl
      have g1 : wr.cell? ⟨b2, off + i * 6 + 1, none⟩ = some (.int .i64 0) := hc 1 _ rfl
      have g2 : wr.cell? ⟨b2, off + i * 6 + 2, none⟩ = some (.string mkey) := hc 2 _ rfl
      have g3 : wr.cell? ⟨b2, off + i * 6 + 3, none⟩ = some (.string mtoo) := hc 3 _ rfl
      have g4 : wr.cell? ⟨b2, off + i * 6 + 4, none⟩ = some (.string mval) := hc 4 _ rfl
      have g5 : wr.cell? ⟨b2, off + i * 6 + 5, none⟩ = some (.int .u64 mdl) := hc 5 _ rfl
      obtain ⟨z0, z1, z2, z3, z4, z5, z6, z7, z8⟩ := gw_cells (HG.out.later HB.out).gw
      obtain ⟨v, hv⟩ : ∃ v, mF mk mdl 2147483647 2147483647 mkey mtoo mval = v := ⟨_, rfl⟩
      have hw0 : 0 < wr.heap.size := Nat.lt_of_lt_of_le H0.out (show w.heap.size ≤ wr.heap.size from HB.out.size)
      have HC : Hid (∀ W, Calls Tryz.prog 69 #[.agg #[.int .u8 mk, .int .i64 0, .string mkey, .string mtoo, .string mval, .int .u64 mdl], cfg 2147483647 2147483647 0 0 0 0 0 0 2147483647] W fun e w' => e = .returned (.int .i64 v) ∧ Below W.heap.size W w') := Lib.hid (fun W => by
        have := mchk_any mk 0 mdl 2147483647 2147483647 0 0 0 0 0 0 2147483647 mkey mtoo mval W
        rw [hv] at this
        exact this)
      have hv3 : ¬ v = 3 := by rw [← hv]; exact hf
      clear hx hNN hc hf hv
      go_wp2_with (first
        | (go_at_call 69; ((refine (HC.out _).mono ?_); rintro e w1 ⟨rfl, b1⟩; have B1 := Lib.hid (HBr.out.trans ((alb wr _).trans (b1.mono (alb wr _).size) |>.mono HBr.out.size)); clear b1))
        | fail)
      exact ⟨⟨i + 1, by omega, rfl, B1.out⟩, by simp [intOf]; omega⟩
    · have hke : i = m := by omega
      subst hke
      have hk1 : ¬ (i : Int) < (i : Int) := by omega
      have hw0 : 0 < wr.heap.size := Nat.lt_of_lt_of_le H0.out (show w.heap.size ≤ wr.heap.size from HB.out.size)
      have hkv := HK3.out
      obtain ⟨z0, z1, z2, z3, z4, z5, z6, z7, z8⟩ := gw_cells (HG.out.later HB.out).gw
      obtain ⟨c0, c1, c2, c3, c4⟩ := cells5 (keep_bel HBr.out Z0.out)
      clear hNN
      go_wp2_with (first
        | (go_at_call 47; ((refine (HR.out _).mono ?_); rintro e w1 ⟨rfl, hw1⟩; (have hw2 := hw1.symm; subst hw2; clear hw1)))
        | (go_at_call 31; ((refine (HAK.out _ (HA.out.later HB.out)).mono ?_); rintro e w1 ⟨rfl, b1⟩; have B1 := Lib.hid (bel_trans HB.out b1); clear b1))
        | fail)
      have hb : (a != 3) = true := by simpa using hkv
      refine bodyPost_ret (v := .bool (a != 3)) (by simp [results, Tryz.results48, go_sem]) rfl ⟨by rw [hb], B1.out⟩
end Go.Proofs.YtelpkajlejbbgaaGreatDoor
