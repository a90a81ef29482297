/- Texts of the proof, one behind the other. -/
import Derived.Test.YtelpkajlejbbgaaGreatDoorTd28
import Derived.Test.YtelpkajlejbbgaaGreatDoorRows
import Derived.WalkKit
import Derived.ProofKit
import Derived.OpenShut
import Derived.ChangeOld
import Derived.ChangeSame
import Derived.Below
import Derived.Lib.SmallJoins
import Derived.SizedLaws
import Derived.Deep.Slices
import Derived.Test.YtelpkajlejbbgaaGreatDoorTd25
set_option linter.unusedVariables false
set_option linter.unusedSimpArgs false
namespace Go.Proofs.YtelpkajlejbbgaaGreatDoor
open Go.RowKit Go.Maps
structure MSz (m : M) : Prop where
  key : m.key.size ≤ 900000
  too : m.too.size ≤ 900000
  val : m.val.size ≤ 900000
  d0 : 0 ≤ m.dl
  d1 : m.dl ≤ 18446744073709551615
theorem mok_of {m : M} (h : MFm m) (z : MSz m) : MOk m := by
  refine ⟨?_, z.key, z.too, z.val, z.d0, z.d1⟩
  have h2 := h.2
  unfold mF at h2
  by_cases k1 : m.k = 1
  · exact .inl k1
  by_cases k2 : m.k = 2
  · exact .inr (.inl k2)
  by_cases k3 : m.k = 3
  · exact .inr (.inr (.inl k3))
  by_cases k4 : m.k = 4
  · exact .inr (.inr (.inr k4))
  rw [if_neg k1, if_neg k2, if_neg k3, if_neg k4] at h2
  exact absurd rfl h2
set_option maxHeartbeats 4000000 in
set_option maxRecDepth 100000 in
theorem rop_msg (n : Int) (key too : ByteArray) (A : Option Addr) (m c : Nat) (ms : List M) (w : World) (hn : inR n = true) (hp : opureB 2 n key too 0 = true) (hm : ms.length = m) (hm9 : m ≤ 2048) (hA : EM.Rd w A ms) (hms : ∀ x ∈ ms, MSz x) (hbad : ¬ ∀ x ∈ ms, MFm x) :
    Calls Tryz.prog 29 #[.agg #[.int .u8 2, .string key, .string too, .int .i64 n, .slice A m c]] w fun e w' => e = .returned (.tuple #[.string ⟨#[]⟩, .int .i64 3]) ∧ Below w.heap.size w w' := by
  obtain ⟨v, hv⟩ : ∃ v, askF 2 n 1099511627776 1099511627776 1099511627776 key too 0 [] = v := ⟨_, rfl⟩
  have HC : Hid (∀ W, Calls Tryz.prog 33 #[.agg #[.int .u8 2, .string key, .string too, .int .i64 n, .slice none 0 0], cfg 1099511627776 1099511627776 0 0 0 0 0 0 1099511627776] W fun e w' => e = .returned (.int .i64 v) ∧ Below W.heap.size W w') := Lib.hid (fun W => by
    have := rask_any 2 n 1099511627776 1099511627776 0 0 0 0 0 0 1099511627776 key too none 0 0 [] W rfl (.inl rfl)
    rw [hv] at this
    exact this)
  have hv3 : ¬ v = 3 := by rw [← hv]; exact askb_fm hp
  have HNU := Lib.hid (fun W => num_ok hn W)
  have HD := Lib.hid (fun W => digits_any m (by omega) W)
  have HDS := Lib.hid (utoa_size m (by omega))
  have HLS : Hid (∀ k, (∀ x ∈ ms.take k, MFm x) → (lineL [wSend, utoaB m] ++ msL (ms.take k)).length ≤ 20000000000) := Lib.hid (fun k hk => by
    have h2 := msL_size (ms.take k) (fun x hx => mok_of (hk x hx) (hms x (List.mem_of_mem_take hx)))
    have h3 := HDS.out
    rw [← ba_len] at h3
    have h4 : (ms.take k).length * 5000000 ≤ 2048 * 5000000 := Nat.mul_le_mul_right _ (by rw [List.length_take]; omega)
    have e1 : wSend.data.toList.length = 4 := rfl
    rw [line2]
    simp only [List.length_append, List.length_cons, List.length_nil]
    omega)
  have HE : Hid (⟨(lineL [wSend, utoaB m]).toArray⟩ = (⟨#[115, 101, 110, 100, 32]⟩ ++ utoaB m) ++ ⟨#[10]⟩) := Lib.hid (ba_inj (by rw [line2, ba_app, ba_app, ba_list]; simp [wSend]))
  have HM := Lib.hid (And.intro hm hm9)
  have HA := Lib.hid hA
  have HMS := Lib.hid hms
  have HBAD := Lib.hid hbad
  have hk9 : ¬ (2048 : Int) < (m : Int) := by omega
  have wm6 : IntKind.u64.wrap (m : Int) = (m : Int) := by show (m : Int) % 18446744073709551616 = m; omega
  have wm7 : (m : Int) % 18446744073709551616 = m := by omega
  generalize itoaB n = N at HNU
  clear hn hp hv hm hm9 hA hms hbad
  obtain ⟨W0, hW0⟩ : ∃ W0, W0 = w.alloc (.cells #[.int .u8 2, .string key, .string too, .int .i64 n, .slice A m c] 47) := ⟨_, rfl⟩
  have B0 := Lib.hid (show Below w.heap.size w W0 by rw [hW0]; exact alb w _)
  have Z0 := Lib.hid (show W0.heap[w.heap.size]? = some (.cells #[.int .u8 2, .string key, .string too, .int .i64 n, .slice A m c] 47) by rw [hW0]; exact heap_alloc_new w _)
  obtain ⟨c0, c1, c2, c3, c4⟩ := cells5 Z0.out
  go_enter Tryz.func29, Tryz.ntmps29
  go_upto_region 1 with fail
  rw [← hW0]
  clear hW0
  go_upto_region 5 with (first
    | (go_at_call 28; ((with_reducible refine (HNU.out _).mono ?_); rintro e w1 ⟨rfl, hw⟩; (have hw2 := hw.symm; subst hw2; clear hw)))
    | fail)
  obtain ⟨W1, hW1⟩ : ∃ W1, W1 = W0.alloc (.cells #[.int .u8 2, .string key, .string too, .int .i64 n, .slice none 0 0] 47) := ⟨_, rfl⟩
  have B1 := Lib.hid (show Below w.heap.size w W1 by rw [hW1]; exact bel_alloc B0.out _)
  have Z1 := Lib.hid (show W1.heap[w.heap.size]? = some (.cells #[.int .u8 2, .string key, .string too, .int .i64 n, .slice A m c] 47) by rw [hW1]; exact keep_bel (alb _ _) Z0.out)
  have Y1 := Lib.hid (show W1.heap[W0.heap.size]? = some (.cells #[.int .u8 2, .string key, .string too, .int .i64 n, .slice none 0 0] 47) by rw [hW1]; exact heap_alloc_new W0 _)
  rw [← hW1]
  clear hW1 c0 c1 c2 c3 c4
  obtain ⟨c0, c1, c2, c3, c4⟩ := cells5 Z1.out
  obtain ⟨d0, d1, d2, d3, d4⟩ := cells5 Y1.out
  go_upto_region 17 with (first
    | (go_at_call 33; ((with_reducible refine (HC.out _).mono ?_); rintro e w2 ⟨rfl, b1⟩; have B2 := Lib.hid (bel_trans B1.out b1); have Z2 := Lib.hid (keep_bel b1 Z1.out); obtain ⟨c0, c1, c2, c3, c4⟩ := cells5 Z2.out; clear b1))
    | fail)
  generalize hU : utoaB m = U at HD HDS HLS HE
  have hcat : ¬ 9223372036854775807 < 5 + U.size := by have := HDS.out; omega
  have hcat2 : ¬ 9223372036854775807 < 5 + U.size + 1 := by have := HDS.out; omega
  go_upto_region 19 with (first
    | (go_at_call 52; ((with_reducible refine (HD.out _).mono ?_); rintro e w3 ⟨rfl, hw⟩; (have hw2 := hw.symm; subst hw2; clear hw)))
    | fail)
  rw [← HE.out]
  clear c0 c1 c2 c3 c4 d0 d1 d2 d3 d4 hcat hcat2
  go_loopw [7, 8] (fun ov iv wr => ∃ k : Nat, k ≤ m ∧ iv = .int .i64 k ∧ Hid (∀ x ∈ ms.take k, MFm x) ∧ Hid (ov = .string ⟨(lineL [wSend, U] ++ msL (ms.take k)).toArray⟩) ∧ Below w2.heap.size w2 wr) (fun _ iv _ => m - (intOf iv).toNat)
  case atStart => exact ⟨0, by omega, rfl, Lib.hid (fun x hx => by simp at hx), Lib.hid (by show _ = Value.string ⟨(lineL [wSend, U] ++ []).toArray⟩; rw [List.append_nil]), Below.refl _ _⟩
  case round =>
    obtain ⟨k, hk, rfl, HGD, HOV, hb⟩ := hrel
    obtain ⟨O, hO⟩ : ∃ O : ByteArray, O = ⟨(lineL [wSend, U] ++ msL (ms.take k)).toArray⟩ := ⟨_, rfl⟩
    rw [← hO] at HOV
    (have hov := HOV.out; subst hov; clear HOV)
    have HB2 := Lib.hid hb
    have HB := Lib.hid (bel_trans B2.out hb)
    clear hb
    obtain ⟨c0, c1, c2, c3, c4⟩ := cells5 (keep_bel HB2.out Z2.out)
    have hNN := HM.out
    by_cases h8 : k < m
    · have hk1 : (k : Int) < (m : Int) := by omega
      have hk0 : (0 : Int) ≤ (k : Int) := by omega
      have WK : IntKind.i64.wrap ((k : Int) + 1) = (k : Int) + 1 := IntWalk.i64_in _ (by omega)
      obtain ⟨x, hx⟩ : ∃ x, ms[k]? = some x := ⟨_, List.getElem?_eq_getElem (by omega)⟩
      obtain ⟨b2, off, rfl, hlt, hc⟩ := (HA.out.later HB.out).get hx
      have hsz := HMS.out x (List.mem_of_getElem? hx)
      by_cases hx1 : MFm x
      rotate_left
      · have HX := Lib.hid (fun W => rline_bad hx1 W)
        obtain ⟨mk, mq, mkey, mtoo, mval, mdl⟩ := x
        unfold M.v at HX
        simp only at HX
        have g0 : wr.cell? ⟨b2, off + k * 6, none⟩ = some (.int .u8 mk) := hc 0 _ rfl
        have g1 : wr.cell? ⟨b2, off + k * 6 + 1, none⟩ = some (.int .i64 mq) := hc 1 _ rfl
        have g2 : wr.cell? ⟨b2, off + k * 6 + 2, none⟩ = some (.string mkey) := hc 2 _ rfl
        have g3 : wr.cell? ⟨b2, off + k * 6 + 3, none⟩ = some (.string mtoo) := hc 3 _ rfl
        have g4 : wr.cell? ⟨b2, off + k * 6 + 4, none⟩ = some (.string mval) := hc 4 _ rfl
        have g5 : wr.cell? ⟨b2, off + k * 6 + 5, none⟩ = some (.int .u64 mdl) := hc 5 _ rfl
        clear hx hNN hc hO hsz hx1
        go_wp2_with (first
          | (go_at_call 53; ((with_reducible refine (HX.out _).mono ?_); rintro e w4 ⟨rfl, b1⟩; have B4 := Lib.hid (bel_trans HB.out b1); clear b1))
          | fail)
        refine bodyPost_ret (v := .tuple #[.string ⟨#[]⟩, .int .i64 3]) (by simp [results, Tryz.results29, go_sem]) rfl ⟨rfl, B4.out⟩
      have hx2 := mok_of hx1 hsz
      have HG2 : Hid (∀ y ∈ ms.take (k + 1), MFm y) := Lib.hid (fun y hy => by
        rw [List.take_add_one, hx] at hy
        rcases List.mem_append.1 hy with hy | hy
        · exact HGD.out y hy
        · simp at hy; subst hy; exact hx1)
      have HX := Lib.hid (fun W => rline_any hx1 hx2 W)
      have HT := Lib.hid (msL_next hx)
      have HXL := Lib.hid (line_size hx2)
      obtain ⟨S, hS⟩ : ∃ S : ByteArray, S = ⟨(lineL (mWords x)).toArray⟩ := ⟨_, rfl⟩
      rw [← hS] at HX
      have HF : Hid (O ++ S = ⟨(lineL [wSend, U] ++ msL (ms.take (k + 1))).toArray⟩) := Lib.hid (ba_inj (by rw [ba_app, ba_list, HT.out, hO, hS, ba_list, ba_list, List.append_assoc]))
      have hcat : ¬ 9223372036854775807 < O.size + S.size := by
        rw [hO, hS, ba_size, ba_size]
        have h1 := HLS.out k HGD.out
        have h2 := HXL.out
        omega
      obtain ⟨mk, mq, mkey, mtoo, mval, mdl⟩ := x
      unfold M.v at HX
      simp only at HX
      have g0 : wr.cell? ⟨b2, off + k * 6, none⟩ = some (.int .u8 mk) := hc 0 _ rfl
      have g1 : wr.cell? ⟨b2, off + k * 6 + 1, none⟩ = some (.int .i64 mq) := hc 1 _ rfl
      have g2 : wr.cell? ⟨b2, off + k * 6 + 2, none⟩ = some (.string mkey) := hc 2 _ rfl
      have g3 : wr.cell? ⟨b2, off + k * 6 + 3, none⟩ = some (.string mtoo) := hc 3 _ rfl
      have g4 : wr.cell? ⟨b2, off + k * 6 + 4, none⟩ = some (.string mval) := hc 4 _ rfl
      have g5 : wr.cell? ⟨b2, off + k * 6 + 5, none⟩ = some (.int .u64 mdl) := hc 5 _ rfl
      clear hx hNN hc hO hS HT hx1 hx2 hsz
      go_wp2_with (first
        | (go_at_call 53; ((with_reducible refine (HX.out _).mono ?_); rintro e w4 ⟨rfl, b1⟩; have B4 := Lib.hid (HB2.out.trans (b1.mono HB2.out.size)); clear b1))
        | fail)
      exact ⟨⟨k + 1, by omega, by simp, HG2, Lib.hid (by rw [← HF.out]), B4.out⟩, by simp [intOf]; omega⟩
    · have hke : k = m := by omega
      subst hke
      have hk1 : ¬ (k : Int) < (k : Int) := by omega
      exfalso
      refine HBAD.out (fun x hx => HGD.out x ?_)
      rw [List.take_of_length_le (by omega)]
      exact hx
end Go.Proofs.YtelpkajlejbbgaaGreatDoor
namespace Go.Proofs.YtelpkajlejbbgaaGreatDoor
open Go.RowKit Go.Maps
/-- An operation's sizes. -/
structure OSz (o : OpV) : Prop where
  key : o.key.size ≤ 900000
  too : o.too.size ≤ 900000
  n : -9223372036854775808 ≤ o.n ∧ o.n ≤ 9223372036854775807
  m : o.ms.length ≤ 900000
  ms : ∀ x ∈ o.ms, MSz x
theorem opure_k {k n : Int} {key too : ByteArray} {len : Nat} (h : opureB k n key too len = true) : k = 1 ∨ k = 2 ∨ k = 3 ∨ k = 4 ∨ k = 5 ∨ k = 6 := by
  unfold opureB at h
  by_cases k1 : k = 1
  · exact .inl k1
  by_cases k2 : k = 2
  · exact .inr (.inl k2)
  by_cases k3 : k = 3
  · exact .inr (.inr (.inl k3))
  by_cases k4 : k = 4
  · exact .inr (.inr (.inr (.inl k4)))
  by_cases k5 : k = 5 ∨ k = 6
  · rcases k5 with k5 | k5
    · exact .inr (.inr (.inr (.inr (.inl k5))))
    · exact .inr (.inr (.inr (.inr (.inr k5))))
  rw [if_neg k1, if_neg k2, if_neg k3, if_neg k4, if_neg k5] at h
  cases h
theorem ook_of {o : OpV} (h : OFm o) (z : OSz o) : OOk o := by
  have hn := h.n
  unfold inR at hn
  simp only [Bool.and_eq_true, decide_eq_true_eq] at hn
  exact ⟨opure_k h.p, z.key, z.too, hn, z.m, fun x hx => mok_of (h.ms x hx) (z.ms x hx)⟩
end Go.Proofs.YtelpkajlejbbgaaGreatDoor
namespace Go.Proofs.YtelpkajlejbbgaaGreatDoor
open Go.ChangeShapes Go.WideShapes Go.ChangeAt Go.RowKit Go.Joins
theorem oz_3 : Tryz.prog.cellsOf 3 = 1 := by kernel_rfl
theorem oz_9 : Tryz.prog.cellsOf 9 = 1 := by kernel_rfl
theorem oz_24 : Tryz.prog.cellsOf 24 = 1 := by kernel_rfl
theorem oz_25 : Tryz.prog.cellsOf 25 = 1 := by kernel_rfl
theorem oz_43 : Tryz.prog.cellsOf 43 = 1 := by kernel_rfl
theorem oz_45 : Tryz.prog.cellsOf 45 = 1 := by kernel_rfl
theorem oz_23 : Tryz.prog.cellsOf 23 = 9 := by kernel_rfl
theorem oz_27 : Tryz.prog.cellsOf 27 = 11 := by kernel_rfl
theorem oz_47 : Tryz.prog.cellsOf 47 = 5 := by kernel_rfl
theorem oz_51 : Tryz.prog.cellsOf 51 = 6 := by kernel_rfl
theorem owf64 {n : Int} (h : (Lit.int .i64 n).wf = true) : -9223372036854775808 ≤ n ∧ n ≤ 9223372036854775807 := by
  have e : (Lit.int .i64 n).wf = (decide (-9223372036854775808 ≤ n) && decide (n ≤ 9223372036854775807)) := by kernel_rfl
  rw [e, Bool.and_eq_true, decide_eq_true_eq, decide_eq_true_eq] at h; exact h
theorem owfu {n : Int} (h : (Lit.int .u64 n).wf = true) : 0 ≤ n ∧ n ≤ 18446744073709551615 := by
  have e : (Lit.int .u64 n).wf = (decide (0 ≤ n) && decide (n ≤ 18446744073709551615)) := by kernel_rfl
  rw [e, Bool.and_eq_true, decide_eq_true_eq, decide_eq_true_eq] at h; exact h
def I64 (n : Int) : Prop := -9223372036854775808 ≤ n ∧ n ≤ 9223372036854775807
/-- A message's number is one. -/
def MIn (m : M) : Prop := 0 ≤ m.dl ∧ m.dl ≤ 18446744073709551615
theorem re_all_at {α : Type} (E : RE α) {xs : List α} {j : Nat} {u : Value} (h : (E.all xs)[j]? = some u) : ∃ k i x, xs[k]? = some x ∧ j = k * E.k + i ∧ (E.cs x)[i]? = some u := by
  induction xs generalizing j with
  | nil => simp [RE.all] at h
  | cons x xs ih =>
    rw [RE.all_cons] at h
    by_cases hj : j < E.k
    · rw [List.getElem?_append_left (by rw [E.len]; exact hj)] at h
      exact ⟨0, j, x, rfl, by omega, h⟩
    · rw [List.getElem?_append_right (by rw [E.len]; omega), E.len] at h
      obtain ⟨k, i, y, h1, h2, h3⟩ := ih h
      exact ⟨k + 1, i, y, by simpa using h1, by rw [Nat.succ_mul]; omega, h3⟩
theorem addr_add2 (b off i j : Nat) : ((⟨b, off, none⟩ : Addr).add i).add j = ⟨b, off + (i + j), none⟩ := by
  by_cases y1 : i = 0 <;> by_cases y2 : j = 0 <;> simp [Addr.add, y1, y2] <;> omega
/-- A row of anything, opened. -/
theorem open_re {α : Type} (E : RE α) (Q : α → Prop) {H : Type} {enc : TypeId × Value → H} {w : World} {base : Nat} {spare : Nat → Bool} {held : Bool} (hk : Tryz.prog.cellsOf E.et = E.k)
    (el : ∀ (a : Addr) (cs : List Value) (x : DataW H × List MemPlace) (n : Nat), w.cells? base a E.k = some cs → DataW.trod enc Tryz.prog w base spare held n E.et cs = some x → ∃ t : α, Q t ∧ ∀ j u, (E.cs t)[j]? = some u → w.cell? (a.add j) = some u)
    {fuel : Nat} {v : Value} {x : DataW H × List MemPlace} (h : DataW.trod enc Tryz.prog w base spare held fuel E.st [v] = some x) :
    ∃ (A : Option Addr) (c : Nat) (xs : List α), v = .slice A xs.length c ∧ E.Rd w A xs ∧ ∀ y ∈ xs, Q y := by
  rcases Go.Deep.open_slice E.und h with ⟨hcs, _⟩ | ⟨a, n, c', m, n', D, Pl, hcs, _, hl, hm, hmm, hxe, hx⟩
  · simp at hcs
    exact ⟨none, 0, [], hcs, .inl rfl, fun y hy => by cases hy⟩
  · simp at hcs
    by_cases h0 : n = 0
    · exact ⟨some a, c', [], by rw [hcs, h0]; rfl, .inl rfl, fun y hy => by cases hy⟩
    · have hall : ∀ i : Nat, ∃ t : α, (Q t ∧ (i < n → ∀ j u, (E.cs t)[j]? = some u → w.cell? ((a.add (i * E.k)).add j) = some u)) := by
        intro i
        by_cases hi : i < n
        · obtain ⟨cs', hc, ht⟩ := hx i (by rw [hmm]; split <;> omega)
          rw [hk] at hc
          obtain ⟨t, h1, h2⟩ := el _ _ _ _ hc ht
          exact ⟨t, h1, fun _ => h2⟩
        · obtain ⟨cs', hc, ht⟩ := hx 0 (by rw [hmm]; split <;> omega)
          rw [hk] at hc
          obtain ⟨t, h1, h2⟩ := el _ _ _ _ hc ht
          exact ⟨t, h1, fun h => absurd h hi⟩
      obtain ⟨f, hf⟩ := Classical.axiomOfChoice hall
      obtain ⟨b, off, spot⟩ := a
      have hf0 : ∃ u, (E.cs (f 0))[0]? = some u := ⟨_, List.getElem?_eq_getElem (by rw [E.len]; exact E.kpos)⟩
      obtain ⟨u0, hu0⟩ := hf0
      have z := (hf 0).2 (by omega) 0 u0 hu0
      have hs : spot = none := by simpa [Addr.add] using World.cell?_spot z
      subst hs
      have hb : b < w.heap.size := by simpa [Addr.add] using World.block_lt_of_cell? w _ z
      refine ⟨some ⟨b, off, none⟩, c', (List.range n).map f, by rw [hcs]; simp, .inr ⟨b, off, rfl, hb, fun j u hj => ?_⟩, fun y hy => (by obtain ⟨i, _, rfl⟩ := List.mem_map.1 hy; exact (hf i).1)⟩
      obtain ⟨k, i, y, hky, rfl, hu⟩ := re_all_at E hj
      rw [List.getElem?_map] at hky
      have hkn : k < n := by
        cases hr : (List.range n)[k]? with
        | none => rw [hr] at hky; cases hky
        | some q => have := (List.getElem?_eq_some_iff.1 hr).1; simpa using this
      rw [List.getElem?_range hkn] at hky
      simp at hky
      subst hky
      have q := (hf k).2 hkn i u hu
      rw [addr_add2] at q
      exact q
theorem oz_44 : Tryz.prog.cellsOf 44 = 1 := by kernel_rfl
theorem oz_48 : Tryz.prog.cellsOf 48 = 1 := by kernel_rfl
theorem oz_49 : Tryz.prog.cellsOf 49 = 1 := by kernel_rfl
set_option maxRecDepth 10000 in
theorem msg_el {H : Type} {enc : TypeId × Value → H} {w : World} {base : Nat} {spare : Nat → Bool} {held : Bool} (a : Addr) (cs : List Value) (x : DataW H × List MemPlace) (n : Nat)
    (hc : w.cells? base a 6 = some cs) (h : DataW.trod enc Tryz.prog w base spare held n 51 cs = some x) :
    ∃ m : M, MIn m ∧ ∀ j u, (EM.cs m)[j]? = some u → w.cell? (a.add j) = some u := by
  obtain ⟨_, hl, hi⟩ := World.cells?_some hc
  obtain ⟨xs, m, _, _, _, hxl, hel⟩ := DataW.trod_struct Tryz.underlying51 h
  match cs, hl, xs, hxl with
  | [c0, c1, c2, c3, c4, c5], _, [y0, y1, y2, y3, y4, y5], _ =>
    have h0 := hel 0 _ rfl
    have h1 := hel 1 _ rfl
    have h2 := hel 2 _ rfl
    have h3 := hel 3 _ rfl
    have h4 := hel 4 _ rfl
    have h5 := hel 5 _ rfl
    simp [oz_48, oz_3, oz_9, oz_49] at h0 h1 h2 h3 h4 h5
    obtain ⟨p0, e0, _, _⟩ := DataW.trod_int Tryz.underlying48 h0
    obtain ⟨p1, e1, _, _⟩ := DataW.trod_int Tryz.underlying3 h1
    obtain ⟨p2, e2, _, _⟩ := DataW.trod_string Tryz.underlying9 h2
    obtain ⟨p3, e3, _, _⟩ := DataW.trod_string Tryz.underlying9 h3
    obtain ⟨p4, e4, _, _⟩ := DataW.trod_string Tryz.underlying9 h4
    obtain ⟨p5, e5, _, f5⟩ := DataW.trod_int Tryz.underlying49 h5
    simp at e0 e1 e2 e3 e4 e5
    subst e0 e1 e2 e3 e4 e5
    refine ⟨⟨p0, p1, p2, p3, p4, p5⟩, owfu f5, fun j u hu => ?_⟩
    match j, hu with
    | 0, hu => simp [EM] at hu; subst hu; simpa using hi 0 (by omega)
    | 1, hu => simp [EM] at hu; subst hu; simpa using hi 1 (by omega)
    | 2, hu => simp [EM] at hu; subst hu; simpa using hi 2 (by omega)
    | 3, hu => simp [EM] at hu; subst hu; simpa using hi 3 (by omega)
    | 4, hu => simp [EM] at hu; subst hu; simpa using hi 4 (by omega)
    | 5, hu => simp [EM] at hu; subst hu; simpa using hi 5 (by omega)
    | j + 6, hu => simp [EM] at hu
/-- What an operation's cells say. -/
structure OIn (w : World) (x : OC) : Prop where
  n : I64 x.n
  h : ∃ ms : List M, x.l = ms.length ∧ EM.Rd w x.A ms ∧ ∀ m ∈ ms, MIn m
set_option maxRecDepth 10000 in
theorem op_el {H : Type} {enc : TypeId × Value → H} {w : World} {base : Nat} {spare : Nat → Bool} {held : Bool} (a : Addr) (cs : List Value) (x : DataW H × List MemPlace) (n : Nat)
    (hc : w.cells? base a 5 = some cs) (h : DataW.trod enc Tryz.prog w base spare held n 47 cs = some x) :
    ∃ o : OC, OIn w o ∧ ∀ j u, (EO.cs o)[j]? = some u → w.cell? (a.add j) = some u := by
  obtain ⟨_, hl, hi⟩ := World.cells?_some hc
  obtain ⟨xs, m, _, _, _, hxl, hel⟩ := DataW.trod_struct Tryz.underlying47 h
  match cs, hl, xs, hxl with
  | [c0, c1, c2, c3, c4], _, [y0, y1, y2, y3, y4], _ =>
    have h0 := hel 0 _ rfl
    have h1 := hel 1 _ rfl
    have h2 := hel 2 _ rfl
    have h3 := hel 3 _ rfl
    have h4 := hel 4 _ rfl
    simp [oz_44, oz_3, oz_9, oz_45] at h0 h1 h2 h3 h4
    obtain ⟨p0, e0, _, _⟩ := DataW.trod_int Tryz.underlying44 h0
    obtain ⟨p1, e1, _, _⟩ := DataW.trod_string Tryz.underlying9 h1
    obtain ⟨p2, e2, _, _⟩ := DataW.trod_string Tryz.underlying9 h2
    obtain ⟨p3, e3, _, f3⟩ := DataW.trod_int Tryz.underlying3 h3
    obtain ⟨A, c, ms, e4, hA, hm⟩ := open_re EM MIn oz_51 msg_el h4
    simp at e0 e1 e2 e3
    subst e0 e1 e2 e3 e4
    refine ⟨⟨p0, p1, p2, p3, A, ms.length, c⟩, ⟨owf64 f3, ms, rfl, hA, hm⟩, fun j u hu => ?_⟩
    match j, hu with
    | 0, hu => simp [EO] at hu; subst hu; simpa using hi 0 (by omega)
    | 1, hu => simp [EO] at hu; subst hu; simpa using hi 1 (by omega)
    | 2, hu => simp [EO] at hu; subst hu; simpa using hi 2 (by omega)
    | 3, hu => simp [EO] at hu; subst hu; simpa using hi 3 (by omega)
    | 4, hu => simp [EO] at hu; subst hu; simpa using hi 4 (by omega)
    | j + 5, hu => simp [EO] at hu
structure HIn (w : World) (x : Hd) : Prop where
  h : ∃ xs : List OC, x.n = xs.length ∧ EO.Rd w x.A xs ∧ ∀ o ∈ xs, OIn w o
set_option maxRecDepth 10000 in
theorem hd_el {H : Type} {enc : TypeId × Value → H} {w : World} {base : Nat} {spare : Nat → Bool} {held : Bool} (a : Addr) (cs : List Value) (x : DataW H × List MemPlace) (n : Nat)
    (hc : w.cells? base a 1 = some cs) (h : DataW.trod enc Tryz.prog w base spare held n 43 cs = some x) :
    ∃ o : Hd, HIn w o ∧ ∀ j u, (EH.cs o)[j]? = some u → w.cell? (a.add j) = some u := by
  obtain ⟨_, hl, hi⟩ := World.cells?_some hc
  match cs, hl with
  | [c0], _ =>
    obtain ⟨A, c, xs, e4, hA, hm⟩ := open_re EO (OIn w) oz_47 op_el h
    subst e4
    refine ⟨⟨A, xs.length, c⟩, ⟨xs, rfl, hA, hm⟩, fun j u hu => ?_⟩
    match j, hu with
    | 0, hu => simp [EH] at hu; subst hu; simpa using hi 0 (by omega)
    | j + 1, hu => simp [EH] at hu
theorem int_el {H : Type} {enc : TypeId × Value → H} {w : World} {base : Nat} {spare : Nat → Bool} {held : Bool} (a : Addr) (cs : List Value) (x : DataW H × List MemPlace) (n : Nat)
    (hc : w.cells? base a 1 = some cs) (h : DataW.trod enc Tryz.prog w base spare held n 3 cs = some x) :
    ∃ v : Int, I64 v ∧ ∀ j u, (EI.cs v)[j]? = some u → w.cell? (a.add j) = some u := by
  obtain ⟨_, hl, hi⟩ := World.cells?_some hc
  match cs, hl with
  | [c0], _ =>
    obtain ⟨p0, e0, _, f0⟩ := DataW.trod_int Tryz.underlying3 h
    simp at e0
    subst e0
    refine ⟨p0, owf64 f0, fun j u hu => ?_⟩
    match j, hu with
    | 0, hu => simp [EI] at hu; subst hu; simpa using hi 0 (by omega)
    | j + 1, hu => simp [EI] at hu
/-- A script's numbers are numbers. -/
structure ScIn (x : ScV) : Prop where
  cf : ∀ v ∈ x.cf, I64 v
  pk : ∀ v ∈ x.picks, I64 v
  op : ∀ r ∈ x.rows, ∀ o ∈ r, I64 o.n ∧ ∀ m ∈ o.ms, MIn m
theorem RE.Rd.rdD {α : Type} {E : RE α} {w : World} {A : Option Addr} {xs : List α} (h : E.Rd w A xs) : E.RdD w (fun _ => False) A xs := by
  rcases h with h | ⟨b, off, e, hlt, h⟩
  · left
    cases xs with
    | nil => rfl
    | cons x xs =>
      have h2 := congrArg List.length h
      rw [E.all_len, List.length_cons, Nat.succ_mul] at h2
      have := E.kpos
      simp at h2
      omega
  · exact .inr ⟨.inr ⟨b, off, e, hlt, h⟩, b, off, e, hlt, fun h => h⟩
theorem ops_of {w : World} : ∀ (xs : List OC), (∀ o ∈ xs, OIn w o) → ∃ os : List OpV, OpsR w (fun _ => False) xs os ∧ ∀ o ∈ os, I64 o.n ∧ ∀ m ∈ o.ms, MIn m
  | [], _ => ⟨[], OpsR.nil, fun o ho => by cases ho⟩
  | x :: xs, h => by
    obtain ⟨os, h1, h2⟩ := ops_of xs (fun o ho => h o (List.mem_cons_of_mem _ ho))
    obtain ⟨hn, ms, e1, e2, e3⟩ := h x (by simp)
    refine ⟨⟨x.k, x.key, x.too, x.n, ms⟩ :: os, ⟨by simp [h1.1], fun i y o hy ho => ?_⟩, fun o ho => ?_⟩
    · cases i with
      | zero => simp at hy ho; subst hy ho; exact ⟨rfl, rfl, rfl, rfl, e1, e2.rdD⟩
      | succ i => exact h1.2 i y o (by simpa using hy) (by simpa using ho)
    · rcases List.mem_cons.1 ho with rfl | ho
      · exact ⟨hn, e3⟩
      · exact h2 o ho
theorem rows_of {w : World} : ∀ (hs : List Hd), (∀ h ∈ hs, HIn w h) → ∃ rows : List (List OpV), RowsR w (fun _ => False) hs rows ∧ ∀ r ∈ rows, ∀ o ∈ r, I64 o.n ∧ ∀ m ∈ o.ms, MIn m
  | [], _ => ⟨[], RowsR.nil, fun o ho => by cases ho⟩
  | x :: xs, h => by
    obtain ⟨os, h1, h2⟩ := rows_of xs (fun o ho => h o (List.mem_cons_of_mem _ ho))
    obtain ⟨ys, e1, e2, e3⟩ := h x (by simp)
    obtain ⟨r, q1, q2⟩ := ops_of ys e3
    refine ⟨r :: os, ⟨by simp [h1.1], fun i y o hy ho => ?_⟩, fun o ho => ?_⟩
    · cases i with
      | zero => simp at hy ho; subst hy ho; exact ⟨ys, e1, e2.rdD, q1⟩
      | succ i => exact h1.2 i y o (by simpa using hy) (by simpa using ho)
    · rcases List.mem_cons.1 ho with rfl | ho
      · exact q2
      · exact h2 o ho
set_option maxRecDepth 10000 in
/-- A script that came in: what it reads as. -/
theorem script_open {H : Type} {enc : TypeId × Value → H} {W : World} {base : Nat} {spare : Nat → Bool} {held : Bool} {r : Reach} {b0 : Nat} {v : Value} {d : DataW H} {p : List MemPlace}
    (hv : Value.okWide Tryz.prog W r b0 27 v) (h : DataW.Trod enc Tryz.prog W base spare held 27 v d p) : ∃ x : ScV, ScR W x v ∧ ScIn x := by
  obtain ⟨cs, rfl, hsz⟩ := okWide_struct Tryz.underlying27 hv
  rw [oz_27] at hsz
  obtain ⟨fuel, hf⟩ := h
  obtain ⟨xs, m, _, _, _, hxl, hel⟩ := DataW.trod_struct Tryz.underlying27 hf
  obtain ⟨ls⟩ := cs
  match ls, hsz, xs, hxl with
  | [c0, c1, c2, c3, c4, c5, c6, c7, c8, c9, c10], _, [y0, y1, y2], _ =>
    have h0 := hel 0 _ rfl
    have h1 := hel 1 _ rfl
    have h2 := hel 2 _ rfl
    simp [oz_23, oz_24, oz_25, Value.cells] at h0 h1 h2
    obtain ⟨A, c, hs, e9, hA, hm⟩ := open_re EH (HIn W) oz_43 hd_el h1
    obtain ⟨B, c', pk, e10, hB, hp⟩ := open_re EI I64 oz_3 int_el h2
    obtain ⟨zs, m2, _, _, _, hzl, hzel⟩ := DataW.trod_struct Tryz.underlying23 h0
    match zs, hzl with
    | [z0, z1, z2, z3, z4, z5, z6, z7, z8], _ =>
      have g0 := hzel 0 _ rfl
      have g1 := hzel 1 _ rfl
      have g2 := hzel 2 _ rfl
      have g3 := hzel 3 _ rfl
      have g4 := hzel 4 _ rfl
      have g5 := hzel 5 _ rfl
      have g6 := hzel 6 _ rfl
      have g7 := hzel 7 _ rfl
      have g8 := hzel 8 _ rfl
      simp [oz_3] at g0 g1 g2 g3 g4 g5 g6 g7 g8
      obtain ⟨p0, i0, _, f0⟩ := DataW.trod_int Tryz.underlying3 g0
      obtain ⟨p1, i1, _, f1⟩ := DataW.trod_int Tryz.underlying3 g1
      obtain ⟨p2, i2, _, f2⟩ := DataW.trod_int Tryz.underlying3 g2
      obtain ⟨p3, i3, _, f3⟩ := DataW.trod_int Tryz.underlying3 g3
      obtain ⟨p4, i4, _, f4⟩ := DataW.trod_int Tryz.underlying3 g4
      obtain ⟨p5, i5, _, f5⟩ := DataW.trod_int Tryz.underlying3 g5
      obtain ⟨p6, i6, _, f6⟩ := DataW.trod_int Tryz.underlying3 g6
      obtain ⟨p7, i7, _, f7⟩ := DataW.trod_int Tryz.underlying3 g7
      obtain ⟨p8, i8, _, f8⟩ := DataW.trod_int Tryz.underlying3 g8
      simp at i0 i1 i2 i3 i4 i5 i6 i7 i8
      subst i0 i1 i2 i3 i4 i5 i6 i7 i8 e9 e10
      obtain ⟨rows, r1, r2⟩ := rows_of hs hm
      refine ⟨⟨[p0, p1, p2, p3, p4, p5, p6, p7, p8], rows, pk⟩, ⟨p0, p1, p2, p3, p4, p5, p6, p7, p8, A, c, B, c', hs, rfl, ?_, hA, r1, hB⟩, ⟨fun v hv => ?_, hp, r2⟩⟩
      · unfold scA
        rw [r1.1]
      · simp at hv
        rcases hv with rfl | rfl | rfl | rfl | rfl | rfl | rfl | rfl | rfl
        · exact owf64 f0
        · exact owf64 f1
        · exact owf64 f2
        · exact owf64 f3
        · exact owf64 f4
        · exact owf64 f5
        · exact owf64 f6
        · exact owf64 f7
        · exact owf64 f8
end Go.Proofs.YtelpkajlejbbgaaGreatDoor
namespace Go.Proofs.YtelpkajlejbbgaaGreatDoor
open Go.RowKit Go.Maps
structure M3 (m : M) : Prop where
  key : m.key.size ≤ 300
  too : m.too.size ≤ 300
  val : m.val.size ≤ 300
structure O8 (o : OpV) : Prop where
  key : o.key.size ≤ 300
  too : o.too.size ≤ 300
  m : o.ms.length ≤ 8
  ms : ∀ x ∈ o.ms, M3 x
structure FewP (x : ScV) : Prop where
  rl : x.rows.length ≤ 6
  pl : x.picks.length ≤ 300
  ol : ∀ r ∈ x.rows, r.length ≤ 12
  op : ∀ r ∈ x.rows, ∀ o ∈ r, O8 o
theorem msz_of {m : M} (h : M3 m) (i : MIn m) : MSz m := by
  have h1 := h.key
  have h2 := h.too
  have h3 := h.val
  exact ⟨by omega, by omega, by omega, i.1, i.2⟩
theorem osz_of {o : OpV} (h : O8 o) (i : I64 o.n ∧ ∀ m ∈ o.ms, MIn m) : OSz o := by
  have h1 := h.key
  have h2 := h.too
  have h3 := h.m
  exact ⟨by omega, by omega, i.1, by omega, fun x hx => msz_of (h.ms x hx) (i.2 x hx)⟩
theorem tok_300 {t : ByteArray} (h : t.size ≤ 300) : (tokB t).size ≤ 601 := by have := tok_size t; omega
theorem line_300 {m : M} (h : M3 m) (i : MIn m) : (lineL (mWords m)).length ≤ 1220 := by
  have h1 := tok_300 h.key
  have h2 := tok_300 h.too
  have h3 := tok_300 h.val
  have h4 := utoa_size m.dl.toNat (by have := i.2; omega)
  rw [← ba_len] at h1 h2 h3 h4
  have e1 : wPut.data.toList.length = 3 := rfl
  have e2 : wDel.data.toList.length = 6 := rfl
  have e3 : wAdd.data.toList.length = 3 := rfl
  have e4 : wClr.data.toList.length = 5 := rfl
  unfold mWords
  split
  · rw [line3]; simp only [List.length_append, List.length_cons, List.length_nil]; omega
  split
  · rw [line2]; simp only [List.length_append, List.length_cons, List.length_nil]; omega
  split
  · rw [line3]; simp only [List.length_append, List.length_cons, List.length_nil]; omega
  · rw [line3]; simp only [List.length_append, List.length_cons, List.length_nil]; omega
theorem fm_size {α : Type} (f : α → List UInt8) (n : Nat) : ∀ (xs : List α), (∀ x ∈ xs, (f x).length ≤ n) → (xs.flatMap f).length ≤ xs.length * n
  | [], _ => Nat.zero_le _
  | x :: xs, h => by
    have ih := fm_size f n xs (fun y hy => h y (List.mem_cons_of_mem _ hy))
    have h1 := h x (by simp)
    rw [List.flatMap_cons, List.length_append, List.length_cons, Nat.succ_mul]
    omega
theorem itoa_21 {v : Int} (h : I64 v) : (itoaB v).size ≤ 21 := itoa_sz v h.1 h.2
theorem nl_size {ns : List Int} (h : ∀ v ∈ ns, I64 v) : (nL ns).length ≤ ns.length * 22 := fm_size _ 22 ns (fun v hv => by
  have h1 := itoa_21 (h v hv)
  rw [← ba_len, itoa_list] at h1
  show (32 :: Lib.itoa v).length ≤ 22
  rw [List.length_cons]
  omega)
theorem op_300 {o : OpV} (h : O8 o) (i : I64 o.n ∧ ∀ m ∈ o.ms, MIn m) : (opL o).length ≤ 9900 := by
  have h1 := tok_300 h.key
  have h2 := tok_300 h.too
  have h3 := itoa_21 i.1
  have h5 := h.m
  have h4 := itoa_21 (v := (o.ms.length : Int)) ⟨by omega, by omega⟩
  have h6 : (msL o.ms).length ≤ o.ms.length * 1220 := fm_size _ 1220 o.ms (fun m hm => line_300 (h.ms m hm) (i.2 m hm))
  have h7 : o.ms.length * 1220 ≤ 8 * 1220 := Nat.mul_le_mul_right _ h5
  rw [← ba_len] at h1 h2 h3 h4
  have e1 : wGet.data.toList.length = 3 := rfl
  have e2 : wLook.data.toList.length = 4 := rfl
  have e3 : wOpen.data.toList.length = 4 := rfl
  have e4 : wNext.data.toList.length = 4 := rfl
  have e5 : wClose.data.toList.length = 5 := rfl
  have e6 : wSend.data.toList.length = 4 := rfl
  unfold opL
  split
  · rw [line2]; simp only [List.length_append, List.length_cons, List.length_nil]; omega
  split
  · rw [line4]; simp only [List.length_append, List.length_cons, List.length_nil]; omega
  split
  · rw [line3]; simp only [List.length_append, List.length_cons, List.length_nil]; omega
  split
  · rw [line2]; simp only [List.length_append, List.length_cons, List.length_nil]; omega
  split
  · rw [line2]; simp only [List.length_append, List.length_cons, List.length_nil]; omega
  · rw [line2]; simp only [List.length_append, List.length_cons, List.length_nil]; omega
theorem rows_300 {x : ScV} (h : FewP x) (i : ScIn x) : (rowsL x.rows).length ≤ 720000 := by
  have h1 : (rowsL x.rows).length ≤ x.rows.length * 118900 := fm_size _ 118900 x.rows (fun r hr => by
    have h2 : (opsL r).length ≤ r.length * 9900 := fm_size _ 9900 r (fun o ho => op_300 (h.op r hr o ho) (i.op r hr o ho))
    have h3 : r.length * 9900 ≤ 12 * 9900 := Nat.mul_le_mul_right _ (h.ol r hr)
    have h4 : (lineL [wSess]).length = 8 := by decide +kernel
    rw [List.length_append]
    omega)
  have h3 : x.rows.length * 118900 ≤ 6 * 118900 := Nat.mul_le_mul_right _ h.rl
  omega
theorem pr_300 {x : ScV} (h : FewP x) (i : ScIn x) (h9 : x.cf.length = 9) : (prL x).length ≤ 800000 := by
  have h1 := rows_300 h i
  have h2 := nl_size i.cf
  have h3 := nl_size i.pk
  have h4 := h.pl
  have e1 : wSizes.data.toList.length = 5 := rfl
  have e2 : wPicks.data.toList.length = 5 := rfl
  unfold prL
  rw [line_nums, line_nums]
  simp only [List.length_append, List.length_cons, List.length_nil]
  omega
/-- Is all of it of good form? -/
def GoodS (x : ScV) : Prop := (∀ v ∈ x.cf, inR v = true) ∧ (∀ r ∈ x.rows, ∀ o ∈ r, OFm o ∧ o.ms.length ≤ 2048) ∧ (∀ v ∈ x.picks, inR v = true)
theorem sfm_of {x : ScV} (h : FewP x) (g : GoodS x) : SFm x := by
  have h1 := h.rl
  have h2 := h.pl
  exact ⟨g.1, g.2.2, by omega, by omega, fun r hr => by have := h.ol r hr; omega, g.2.1⟩
theorem num_bad {n : Int} (h : ¬ inR n = true) (i : I64 n) (w : World) : Calls Tryz.prog 28 #[.int .i64 n] w fun e w' => e = .returned (.tuple #[.string ⟨#[]⟩, .bool false]) ∧ w' = w := by
  have q := rnum_any n i.1 i.2 w
  unfold numT at q
  rw [if_neg h] at q
  exact q
end Go.Proofs.YtelpkajlejbbgaaGreatDoor
namespace Go.Proofs.YtelpkajlejbbgaaGreatDoor
open Go.RowKit Go.Maps
end Go.Proofs.YtelpkajlejbbgaaGreatDoor
