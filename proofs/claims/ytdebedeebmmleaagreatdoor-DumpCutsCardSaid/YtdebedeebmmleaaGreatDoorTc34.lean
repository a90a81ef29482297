/- Texts of the proof, one behind the other. -/
import Derived.Test.YtdebedeebmmleaaGreatDoorTc28
import Derived.Test.YtdebedeebmmleaaGreatDoorTc33
set_option linter.unusedVariables false
set_option linter.unusedSimpArgs false
namespace Go.Proofs.YtdebedeebmmleaaGreatDoor
open Go.RowKit Go.Maps
def liveY : List NdV := [⟨0, [], [], [], []⟩, ⟨2, [], [2], [], []⟩, ⟨1, [], [], [], []⟩]
abbrev liveS : ByteArray := ⟨#[116, 114, 101, 101, 32, 51, 10, 105, 110, 110, 101, 114, 32, 49, 32, 50, 10, 108, 101, 97, 102, 32, 50, 10]⟩
theorem live_text : (⟨(dprL liveY).toArray⟩ : ByteArray) = liveS := by kernel_rfl
theorem live_par : dparF liveS = .ok liveY := by kernel_rfl
theorem live_told : TAll liveY := by
  unfold liveY
  refine ⟨fun y h => by injection h with h; rw [← h], fun y h => ?_⟩
  simp only [List.mem_cons, List.not_mem_nil, or_false] at h
  rcases h with rfl | rfl | rfl
  · exact .inl ⟨rfl, rfl, rfl, rfl, rfl⟩
  · exact .inr (.inr ⟨rfl, rfl, rfl, by simp, by simp⟩)
  · exact .inr (.inl ⟨rfl, rfl, rfl, rfl⟩)
theorem live_sm : ∀ y ∈ liveY, NSm y := by
  unfold liveY
  intro y h
  simp only [List.mem_cons, List.not_mem_nil, or_false] at h
  rcases h with rfl | rfl | rfl <;> exact ⟨by simp, by simp, by simp, by simp⟩
def nH : Hd := ⟨none, 0, 0⟩
def liveC (b : Nat) : List NC := [⟨0, nH, nH, nH, nH⟩, ⟨2, nH, ⟨some ⟨b, 0, none⟩, 1, 1⟩, nH, nH⟩, ⟨1, nH, nH, nH, nH⟩]
theorem rd_nil {α : Type} {E : RE α} {w : World} {A : Option Addr} : E.Rd w A [] := .inl rfl
theorem nrd_nil {w : World} {k : Int} : NRd w ⟨k, nH, nH, nH, nH⟩ [] ⟨k, [], [], [], []⟩ :=
  ⟨rfl, ⟨rfl, rd_nil⟩, ⟨rfl, rd_nil⟩, ⟨rfl, rd_nil⟩, rfl, rd_nil, rfl, fun i h l hh hl => by cases hh⟩
theorem live_nt {w : World} {b g : Nat} (h0 : w.heap[b]? = some (.cells #[.int .i64 2] 3 (0, 0))) (h1 : w.heap[g]? = some (.cells #[.int .u8 0, .slice none 0 0, .slice none 0 0, .slice none 0 0, .slice none 0 0, .int .u8 2, .slice none 0 0, .slice (some ⟨b, 0, none⟩) 1 1, .slice none 0 0, .slice none 0 0, .int .u8 1, .slice none 0 0, .slice none 0 0, .slice none 0 0, .slice none 0 0] 44 (0, 0))) : NT w (some ⟨g, 0, none⟩) (liveC b) liveY := by
  refine ⟨rd_block (t := 44) h1, rfl, fun i x y hx hy => ?_⟩
  match i, hx, hy with
  | 0, hx, hy => injection hx with hx; injection hy with hy; subst hx hy; exact ⟨[], nrd_nil⟩
  | 1, hx, hy =>
    injection hx with hx; injection hy with hy; subst hx hy
    exact ⟨[], rfl, ⟨rfl, rd_nil⟩, ⟨rfl, rd_block (E := EI) (xs := [2]) (t := 3) h0⟩, ⟨rfl, rd_nil⟩, rfl, rd_nil, rfl, fun i h l hh hl => by cases hh⟩
  | 2, hx, hy => injection hx with hx; injection hy with hy; subst hx hy; exact ⟨[], nrd_nil⟩
  | n + 3, hx, hy => cases hx
set_option maxHeartbeats 4000000 in
set_option maxRecDepth 100000 in
theorem live_any (w : World) (hg : GW w) : Calls Tryz.prog 8 #[] w fun e w' => e = .returned (.bool true) ∧ Below w.heap.size w w' := by
  obtain ⟨W1, hW1⟩ : ∃ W1, W1 = (((w.alloc (Obj.cells #[Value.int IntKind.i64 2] 3)).alloc (Obj.cells #[Value.int IntKind.u8 0, Value.slice none 0 0, Value.slice none 0 0, Value.slice none 0 0, Value.slice none 0 0, Value.int IntKind.u8 2, Value.slice none 0 0, Value.slice (some { block := w.heap.size, off := 0 }) 1 1, Value.slice none 0 0, Value.slice none 0 0, Value.int IntKind.u8 1, Value.slice none 0 0, Value.slice none 0 0, Value.slice none 0 0, Value.slice none 0 0] 44)).alloc (Obj.cells #[Value.slice (some { block := w.heap.size + 1, off := 0 }) 3 3] 24)) := ⟨_, rfl⟩
  have B1 := Lib.hid (show Below w.heap.size w W1 by rw [hW1]; exact bel_alloc (bel_alloc (alb w _) _) _)
  have N1 := Lib.hid (show NT W1 (some ⟨w.heap.size + 1, 0, none⟩) (liveC w.heap.size) liveY by
    rw [hW1]
    refine live_nt (keep_bel (alb _ _) (keep_bel (alb _ _) (heap_alloc_new w _))) (keep_bel (alb _ _) ?_)
    have := heap_alloc_new (w.alloc (Obj.cells #[Value.int IntKind.i64 2] 3)) (Obj.cells #[Value.int IntKind.u8 0, Value.slice none 0 0, Value.slice none 0 0, Value.slice none 0 0, Value.slice none 0 0, Value.int IntKind.u8 2, Value.slice none 0 0, Value.slice (some { block := w.heap.size, off := 0 }) 1 1, Value.slice none 0 0, Value.slice none 0 0, Value.int IntKind.u8 1, Value.slice none 0 0, Value.slice none 0 0, Value.slice none 0 0, Value.slice none 0 0] 44)
    simpa using this)
  have Z1 := Lib.hid (show W1.heap[w.heap.size + 1 + 1]? = some (.cells #[.slice (some ⟨w.heap.size + 1, 0, none⟩) 3 3] 24 (0, 0)) by
    rw [hW1]
    have := heap_alloc_new ((w.alloc (Obj.cells #[Value.int IntKind.i64 2] 3)).alloc (Obj.cells #[Value.int IntKind.u8 0, Value.slice none 0 0, Value.slice none 0 0, Value.slice none 0 0, Value.slice none 0 0, Value.int IntKind.u8 2, Value.slice none 0 0, Value.slice (some { block := w.heap.size, off := 0 }) 1 1, Value.slice none 0 0, Value.slice none 0 0, Value.int IntKind.u8 1, Value.slice none 0 0, Value.slice none 0 0, Value.slice none 0 0, Value.slice none 0 0] 44)) (Obj.cells #[Value.slice (some { block := w.heap.size + 1, off := 0 }) 3 3] 24)
    simpa using this)
  have HG := Lib.hid hg
  have PR := Lib.hid (print_ok (some ⟨w.heap.size + 1, 0, none⟩) 3 3 (liveC w.heap.size) liveY W1 (hg.later B1.out) N1.out rfl (by omega) live_sm live_told (by have h := congrArg ByteArray.size live_text; rw [ba_size] at h; rw [h]; decide))
  rw [live_text] at PR
  have c0 : W1.cell? ⟨w.heap.size + 1 + 1, 0, none⟩ = some (.slice (some ⟨w.heap.size + 1, 0, none⟩) 3 3) := cellh Z1.out rfl
  have PA := Lib.hid (fun V (h : Below w.heap.size w V) => parse_any liveS (by decide) V (hg.later h))
  rw [live_par] at PA
  clear hg
  go_enter Tryz.func8, Tryz.ntmps8
  go_upto_region 2 with fail
  rw [← hW1]
  clear hW1
  go_upto_region 3 with (first
    | (go_at_call 9; ((with_reducible refine PR.out.mono ?_); rintro e w2 ⟨rfl, b2⟩; have B2 := Lib.hid (bel_trans B1.out b2); have Y2 := Lib.hid b2; clear b2))
    | fail)
  clear c0
  go_upto_region 4 with (first
    | (go_at_call 15; ((with_reducible refine (PA.out _ B2.out).mono ?_); rintro e w3 ⟨⟨nb, lo, O, ns, rfl, hnb, hns⟩, b3⟩; have B3 := Lib.hid (bel_trans Y2.out b3); have N3 := Lib.hid hns.nt; clear hnb hns b3))
    | fail)
  simp only [show liveY.length = 3 from rfl]
  obtain ⟨W4, hW4⟩ : ∃ W4, W4 = w3.alloc (Obj.cells #[Value.slice (some { block := nb, off := 0 }) 3 3] 24) := ⟨_, rfl⟩
  have B4 := Lib.hid (show Below W1.heap.size W1 W4 by rw [hW4]; exact bel_alloc B3.out _)
  have N4 := Lib.hid (show NT W4 (some ⟨nb, 0, none⟩) ns liveY by rw [hW4]; exact N3.out.later (alb w3 _))
  have c4 : W4.cell? ⟨w3.heap.size, 0, none⟩ = some (.slice (some ⟨nb, 0, none⟩) 3 3) := cellh (show W4.heap[w3.heap.size]? = some (.cells #[.slice (some ⟨nb, 0, none⟩) 3 3] 24 (0, 0)) by rw [hW4]; exact heap_alloc_new w3 _) rfl
  have c1 : W4.cell? ⟨w.heap.size + 1 + 1, 0, none⟩ = some (.slice (some ⟨w.heap.size + 1, 0, none⟩) 3 3) := cellh (keep_bel B4.out Z1.out) rfl
  have SA := Lib.hid (tsame_any (some ⟨nb, 0, none⟩) (some ⟨w.heap.size + 1, 0, none⟩) 3 3 3 3 ns (liveC w.heap.size) liveY liveY true W4 (by simp) N4.out (N1.out.later B4.out) rfl rfl (by omega) live_sm live_sm)
  have LI := Lib.hid (fun V (h : Below W1.heap.size W1 V) => lines_any (some ⟨w.heap.size + 1, 0, none⟩) 3 3 (liveC w.heap.size) liveY V (HG.out.later (B1.out.trans (h.mono B1.out.size))) (N1.out.later h) rfl (by omega) live_sm)
  rw [told_of live_told (by unfold liveY; simp)] at LI
  rw [← hW4]
  clear hW4
  go_wp2_with (first
    | (go_at_call 14; ((with_reducible refine SA.out.mono ?_); rintro e w5 ⟨rfl, b5⟩; have B5 := Lib.hid (bel_trans B4.out b5); replace c1 : w5.cell? ⟨w.heap.size + 1 + 1, 0, none⟩ = some (.slice (some ⟨w.heap.size + 1, 0, none⟩) 3 3) := cellh (keep_bel B5.out Z1.out) rfl; clear b5))
    | (go_at_call 11; ((with_reducible refine (LI.out _ B5.out).mono ?_); rintro e w6 ⟨rfl, b6⟩; have B6 := Lib.hid (bel_trans B5.out b6); clear b6))
    | fail)
  go_ret
  exact ⟨by rfl, B1.out.trans (B6.out.mono B1.out.size)⟩
end Go.Proofs.YtdebedeebmmleaaGreatDoor
namespace Go.Proofs.YtdebedeebmmleaaGreatDoor
open Go.RowKit Go.Maps
theorem tms_of {m : M} (h : tmB m = true) (hd : 0 ≤ m.dl ∧ m.dl ≤ 18446744073709551615) : TMs m := by
  unfold tmB at h
  simp only [Bool.and_eq_true, decide_eq_true_eq] at h
  exact ⟨mf_k h.2, h.1, h.2, hd⟩
theorem nd_of {y : NdV} (h : nodeB y = true) (hi : NIn y) : TNd y := by
  unfold nodeB at h
  by_cases h0 : y.k = 0
  · rw [if_pos h0, decide_eq_true_eq] at h
    exact .inl ⟨h0, List.eq_nil_of_length_eq_zero (by omega), List.eq_nil_of_length_eq_zero (by omega), List.eq_nil_of_length_eq_zero (by omega), List.eq_nil_of_length_eq_zero (by omega)⟩
  · rw [if_neg h0] at h
    by_cases h1 : y.k = 1
    · rw [if_pos h1, decide_eq_true_eq] at h
      exact .inr (.inl ⟨h1, List.eq_nil_of_length_eq_zero (by omega), List.eq_nil_of_length_eq_zero (by omega), List.eq_nil_of_length_eq_zero (by omega)⟩)
    · rw [if_neg h1] at h
      by_cases h2 : y.k = 2
      · rw [if_pos h2] at h
        simp only [Bool.and_eq_true, decide_eq_true_eq, Bool.not_eq_true'] at h
        refine .inr (.inr ⟨h2, List.eq_nil_of_length_eq_zero h.1, h.2.1, fun v hv => ?_, fun m hm => ?_⟩)
        · have q := List.any_eq_false.1 h.2.2.1 v hv
          unfold kdB at q
          simp at q
          omega
        · have q := List.any_eq_false.1 h.2.2.2 m hm
          exact tms_of (by simpa using q) (hi.m m hm)
      · rw [if_neg h2] at h
        cases h
theorem tall_of {ys : List NdV} (h : ys.zipIdx.all toldAt = true) (hq : ∀ y ∈ ys, NQ y) : TAll ys := by
  rw [List.all_eq_true] at h
  refine ⟨fun y hy => ?_, fun y hy => ?_⟩
  · have q := h (y, 0) (List.mem_of_getElem? (zi_get hy))
    unfold toldAt at q
    simp only [Bool.and_eq_true, Bool.or_eq_true, decide_eq_true_eq] at q
    rcases q.2 with q | q
    · exact absurd rfl q
    · exact q
  · obtain ⟨i, hi⟩ := List.mem_iff_getElem?.1 hy
    have q := h (y, i) (List.mem_of_getElem? (zi_get hi))
    unfold toldAt at q
    simp only [Bool.and_eq_true] at q
    exact nd_of q.1 (hq y hy).i
end Go.Proofs.YtdebedeebmmleaaGreatDoor
namespace Go.Proofs.YtdebedeebmmleaaGreatDoor
open Go.RowKit Go.Maps
/-- The next line stands whatever is behind it. -/
theorem next_pre {t u : ByteArray} {ws : List ByteArray} (h : nextF t = some (ws, u)) : ∃ J : List UInt8, (10 : UInt8) ∉ J ∧ t.data.toList = J ++ 10 :: u.data.toList ∧ ∀ r : List UInt8, nextF ⟨(J ++ 10 :: r).toArray⟩ = some (ws, ⟨r.toArray⟩) := by
  obtain ⟨_, _, _, h4, h5⟩ := next_facts h
  refine ⟨_, h5, h4, fun r => ?_⟩
  unfold nextF at h
  rw [h4, cut_app 10 _ _ h5] at h
  simp only [if_true] at h
  injection h with h
  injection h with h6 h7
  unfold nextF
  rw [ba_list, cut_app 10 _ _ h5]
  simp only [if_true]
  rw [h6]
/-- Cut behind a line, or not. -/
def AtL (L : List UInt8) (k : Nat) : Prop := k = 0 ∨ L[k - 1]? = some 10
theorem atl_in {J r : List UInt8} (hJ : (10 : UInt8) ∉ J) {k : Nat} (h0 : k ≠ 0) (hk : k ≤ J.length) : ¬ AtL (J ++ 10 :: r) k := by
  rintro (h | h)
  · exact h0 h
  · rw [List.getElem?_append_left (by omega)] at h
    exact hJ (List.mem_of_getElem? h)
theorem atl_on {J r : List UInt8} {k : Nat} : AtL (J ++ 10 :: r) (J.length + 1 + k) ↔ AtL r k := by
  unfold AtL
  cases k with
  | zero => simp
  | succ k =>
    rw [List.getElem?_append_right (by omega), show J.length + 1 + (k + 1) - 1 - J.length = k + 1 by omega, List.getElem?_cons_succ, show k + 1 - 1 = k by omega]
    constructor
    · rintro (h | h)
      · omega
      · exact .inr h
    · rintro (h | h)
      · omega
      · exact .inr h
theorem take_in {J r : List UInt8} {k : Nat} (hk : k ≤ J.length) : (J ++ 10 :: r).take k = J.take k := List.take_append_of_le_length hk
theorem take_on {J r : List UInt8} (k : Nat) : (J ++ 10 :: r).take (J.length + 1 + k) = J ++ 10 :: r.take k := by
  rw [List.take_append, List.take_of_length_le (by omega), show J.length + 1 + k - J.length = k + 1 by omega, List.take_succ_cons]
theorem lc_zero {L : List UInt8} (h : (10 : UInt8) ∉ L) : LC ⟨L.toArray⟩ = 0 := by
  unfold LC
  rw [ba_list, List.count_eq_zero]
  exact h
theorem take_no {J : List UInt8} (hJ : (10 : UInt8) ∉ J) (k : Nat) : (10 : UInt8) ∉ J.take k := fun h => hJ (List.mem_of_mem_take h)
theorem lc_on {J r : List UInt8} (hJ : (10 : UInt8) ∉ J) : LC ⟨(J ++ 10 :: r).toArray⟩ = LC ⟨r.toArray⟩ + 1 := by
  unfold LC
  rw [ba_list, ba_list, List.count_append, List.count_eq_zero.2 hJ, List.count_cons_self]
  omega
theorem bodyg_cut (n : Nat) : ∀ (f z : Nat) (ys : List NdV) (u : ByteArray) (l : Int) {r : List NdV}, bodyG n f z ys u l = .ok r → ∀ (k f' : Nat), k ≤ u.data.toList.length → k < f' →
    (AtL u.data.toList k → ∃ r', bodyG n f' z ys ⟨(u.data.toList.take k).toArray⟩ l = .ok r') ∧ (¬ AtL u.data.toList k → bodyG n f' z ys ⟨(u.data.toList.take k).toArray⟩ l = .error (l + LC ⟨(u.data.toList.take k).toArray⟩ + 1, 5))
  | 0, z, ys, u, l, r, h => by simp [bodyG] at h
  | f + 1, z, ys, u, l, r, h => by
    intro k f' hk hf
    obtain ⟨f', rfl⟩ : ∃ g, f' = g + 1 := ⟨f' - 1, by omega⟩
    by_cases hk0 : k = 0
    · subst hk0
      exact ⟨fun _ => ⟨ys, by unfold bodyG; rw [if_pos (by rw [ba_list]; rfl)]⟩, fun q => absurd (.inl rfl) q⟩
    unfold bodyG at h
    split at h
    · rename_i hu
      rw [hu] at hk
      simp at hk
      omega
    · cases hn : nextF u with
      | none => rw [hn] at h; cases h
      | some q =>
        obtain ⟨ws, u2⟩ := q
        rw [hn] at h
        simp only at h
        cases hb : bodyF n z ys ws with
        | none => rw [hb] at h; cases h
        | some q =>
          obtain ⟨z2, ys2⟩ := q
          rw [hb] at h
          simp only at h
          obtain ⟨J, hJ, hL, hpre⟩ := next_pre hn
          rw [hL] at hk ⊢
          by_cases hkJ : k ≤ J.length
          · refine ⟨fun q => absurd q (atl_in hJ hk0 hkJ), fun _ => ?_⟩
            have hno := take_no hJ k
            rw [take_in hkJ]
            unfold bodyG
            rw [if_neg (by
              rw [ba_list]
              intro e
              have := congrArg List.length e
              rw [List.length_take, List.length_nil] at this
              omega), next_none_of (by rw [ba_list]; exact hno), lc_zero hno]
            simp
          · obtain ⟨k2, rfl⟩ : ∃ k2, k = J.length + 1 + k2 := ⟨k - J.length - 1, by omega⟩
            have hk2 : k2 ≤ u2.data.toList.length := by rw [List.length_append, List.length_cons] at hk; omega
            obtain ⟨i1, i2⟩ := bodyg_cut n f z2 ys2 u2 (l + 1) h k2 f' hk2 (by omega)
            have e : bodyG n (f' + 1) z ys ⟨(J ++ 10 :: u2.data.toList.take k2).toArray⟩ l = bodyG n f' z2 ys2 ⟨(u2.data.toList.take k2).toArray⟩ (l + 1) := by
              show (if _ then _ else _) = _
              rw [if_neg (by rw [ba_list]; simp), hpre]
              simp only
              rw [hb]
            rw [take_on, e, atl_on, lc_on hJ]
            refine ⟨i1, fun q => ?_⟩
            rw [i2 q]
            congr 2
            push_cast
            omega
/-- A printed text that is cut. -/
theorem dpar_cut {t : ByteArray} {ys : List NdV} (h : dparF t = .ok ys) {k : Nat} (hk : k ≤ t.data.toList.length) :
    (k ≠ 0 ∧ t.data.toList[k - 1]? = some 10 → ∃ r', dparF ⟨(t.data.toList.take k).toArray⟩ = .ok r') ∧ (¬ (k ≠ 0 ∧ t.data.toList[k - 1]? = some 10) → dparF ⟨(t.data.toList.take k).toArray⟩ = .error ((LC ⟨(t.data.toList.take k).toArray⟩ : Int) + 1, 5)) := by
  unfold dparF at h
  cases hn : nextF t with
  | none => rw [hn] at h; cases h
  | some q =>
    obtain ⟨ws, u⟩ := q
    rw [hn] at h
    simp only at h
    cases hh : headF ws with
    | error e => rw [hh] at h; cases h
    | ok n =>
      rw [hh] at h
      simp only at h
      obtain ⟨J, hJ, hL, hpre⟩ := next_pre hn
      rw [hL] at hk ⊢
      by_cases hkJ : k ≤ J.length
      · refine ⟨fun q => absurd (.inr q.2) (atl_in hJ q.1 hkJ), fun _ => ?_⟩
        have hno := take_no hJ k
        rw [take_in hkJ]
        unfold dparF
        rw [next_none_of (by rw [ba_list]; exact hno), lc_zero hno]
        simp
      · obtain ⟨k2, rfl⟩ : ∃ k2, k = J.length + 1 + k2 := ⟨k - J.length - 1, by omega⟩
        have hk2 : k2 ≤ u.data.toList.length := by rw [List.length_append, List.length_cons] at hk; omega
        obtain ⟨i1, i2⟩ := bodyg_cut n _ _ _ _ _ h k2 ((⟨(u.data.toList.take k2).toArray⟩ : ByteArray).size + 1) hk2 (by rw [ba_size, List.length_take]; omega)
        have e : dparF ⟨(J ++ 10 :: u.data.toList.take k2).toArray⟩ = bodyG n ((⟨(u.data.toList.take k2).toArray⟩ : ByteArray).size + 1) 0 (zeroN n) ⟨(u.data.toList.take k2).toArray⟩ 1 := by
          unfold dparF
          rw [hpre]
          simp only
          rw [hh]
        have ea : AtL (J ++ 10 :: u.data.toList) (J.length + 1 + k2) ↔ (J.length + 1 + k2 ≠ 0 ∧ (J ++ 10 :: u.data.toList)[J.length + 1 + k2 - 1]? = some 10) := by
          unfold AtL
          constructor
          · rintro (q | q)
            · omega
            · exact ⟨by omega, q⟩
          · exact fun q => .inr q.2
        rw [take_on, e, ← ea, atl_on, lc_on hJ]
        refine ⟨i1, fun q => ?_⟩
        rw [i2 q]
        congr 2
        push_cast
        omega
theorem nin_of {y : NdV} (h : TNd y) : NIn y := by
  rcases h with ⟨h0, h1, h2, h3, h4⟩ | ⟨h0, h1, h2, h3⟩ | ⟨h0, h1, h2, h3, h4⟩
  · exact ⟨fun v hv => by rw [h1] at hv; (cases hv), fun m hm => by rw [h3] at hm; (cases hm), by omega⟩
  · exact ⟨fun v hv => by rw [h1] at hv; (cases hv), fun m hm => by rw [h3] at hm; (cases hm), by omega⟩
  · exact ⟨fun v hv => by have := h3 v hv; omega, fun m hm => (h4 m hm).d, by omega⟩
theorem cut_take (T : ByteArray) (a : Nat) : (⟨(T.data.toList.take a).toArray⟩ : ByteArray) = T.extract 0 a := ba_inj (by
  rw [ba_list, ByteArray.data_extract]
  simp)
end Go.Proofs.YtdebedeebmmleaaGreatDoor
namespace Go.Proofs.YtdebedeebmmleaaGreatDoor
open Go.RowKit Go.Maps
set_option maxHeartbeats 4000000 in
set_option maxRecDepth 100000 in
theorem cuts_any (A : Option Addr) (n c : Nat) (ns : List NC) (ys : List NdV) (v : Int) (w : World) (hg : GW w) (hT : NT w A ns ys) (hl : ys.length = n) (hq : ∀ y ∈ ys, NQ y) (hv : 0 ≤ v ∧ v ≤ 65535) :
    Calls Tryz.prog 6 #[.agg #[.slice A n c], .int .u16 v] w fun e w' => e = .returned (.bool true) ∧ Below w.heap.size w w' := by
  have HG := Lib.hid hg
  have HT := Lib.hid hT
  have HL := Lib.hid hl
  have HQ := Lib.hid hq
  have HV := Lib.hid hv
  obtain ⟨W0, hW0⟩ : ∃ W0, W0 = w.alloc (.cells #[.slice A n c] 24) := ⟨_, rfl⟩
  have B0 := Lib.hid (show Below w.heap.size w W0 by rw [hW0]; exact alb w _)
  have Z0 := Lib.hid (show W0.heap[w.heap.size]? = some (.cells #[.slice A n c] 24 (0, 0)) by rw [hW0]; exact heap_alloc_new w _)
  have c0 : W0.cell? ⟨w.heap.size, 0, none⟩ = some (.slice A n c) := cellh Z0.out rfl
  have FW := Lib.hid (few_any A n c ns ys W0 (hT.later B0.out) hl)
  have LV := Lib.hid (fun V (h : Below W0.heap.size W0 V) => live_any V (hg.later (bel_trans B0.out h)))
  clear hg hT hl hq hv
  go_enter Tryz.func6, Tryz.ntmps6
  go_upto_region 1 with fail
  rw [← hW0]
  clear hW0
  go_upto_region 3 with (first
    | (go_at_call 7; ((with_reducible refine FW.out.mono ?_); rintro e w1 ⟨⟨b, rfl, hb⟩, b1⟩; have B1 := Lib.hid b1; have HB := Lib.hid hb; replace c0 : w1.cell? ⟨w.heap.size, 0, none⟩ = some (.slice A n c) := cellh (keep_bel b1 Z0.out) rfl; clear b1 hb; cases b))
    | (go_at_call 8; ((with_reducible refine (LV.out _ B1.out).mono ?_); rintro e w2 ⟨rfl, b2⟩; have B2 := Lib.hid (bel_trans B1.out b2); clear b2))
    | fail)
  · go_ret
    exact ⟨rfl, bel_trans B0.out B2.out⟩
  have HF := Lib.hid (HB.out (by trivial))
  have HTX := Lib.hid (few_text HF.out HQ.out)
  have QP := Lib.hid (qprint_any A n c ns ys w1 (HT.out.later (bel_trans B0.out B1.out)) HL.out (by have := HF.out.n; have := HL.out; omega) (few_nsm HF.out) (fun y hy => (HQ.out y hy).i) (by have := HTX.out; omega))
  unfold qprT at QP
  by_cases ht : ys.zipIdx.all toldAt = true
  rotate_left
  · rw [if_neg ht] at QP
    clear ht
    go_wp2_with (first
      | (go_at_call 10; ((with_reducible refine QP.out.mono ?_); rintro e w2 ⟨rfl, b2⟩; have B2 := Lib.hid (bel_trans B1.out b2); clear b2))
      | (go_at_call 8; ((with_reducible refine (LV.out _ B2.out).mono ?_); rintro e w3 ⟨rfl, b3⟩; have B3 := Lib.hid (bel_trans B2.out b3); clear b3))
      | fail)
    go_ret
    exact ⟨rfl, bel_trans B0.out B3.out⟩
  rw [if_pos ht] at QP
  have HTA := Lib.hid (tall_of ht HQ.out)
  have HPF := Lib.hid (dpar_fwd HTA.out (by have := HF.out.n; omega))
  have hne : 0 < (⟨(dprL ys).toArray⟩ : ByteArray).size := by
    rw [ba_size]
    unfold dprL
    rw [List.length_append]
    have := List.length_pos_iff.2 (line_ne [wTree, itoaB (ys.length : Int)])
    omega
  have hts : (⟨(dprL ys).toArray⟩ : ByteArray).size ≤ 800000 := by rw [ba_size]; exact HTX.out
  generalize (⟨(dprL ys).toArray⟩ : ByteArray) = S at QP HPF hne hts
  clear ht
  go_upto_region 4 with (first
    | (go_at_call 10; ((with_reducible refine QP.out.mono ?_); rintro e w2 ⟨rfl, b2⟩; have B2 := Lib.hid (bel_trans B1.out b2); clear b2 c0))
    | fail)
  by_cases h5 : S.size ≤ 5000
  rotate_left
  · have k5 : (5000 : Int) < (S.size : Int) := by omega
    clear h5 hts hne
    go_wp2_with (first
      | (go_at_call 8; ((with_reducible refine (LV.out _ B2.out).mono ?_); rintro e w3 ⟨rfl, b3⟩; have B3 := Lib.hid (bel_trans B2.out b3); clear b3))
      | fail)
    go_ret
    exact ⟨rfl, bel_trans B0.out B3.out⟩
  have k5 : ¬ (5000 : Int) < (S.size : Int) := by omega
  go_upto_region 6 with fail
  obtain ⟨p, hp⟩ : ∃ p : Nat, v = (p : Int) := ⟨v.toNat, by have := HV.out; omega⟩
  subst hp
  obtain ⟨kk, hkk⟩ : ∃ kk, p % S.size = kk := ⟨_, rfl⟩
  have hkq : kk < S.size := by rw [← hkk]; exact Nat.mod_lt _ (by omega)
  have ek : (p : Int).tmod (S.size : Int) = (kk : Int) := by rw [Int.tmod_eq_emod_of_nonneg (by omega)]; omega
  have wp : IntKind.i64.wrap (p : Int) = (p : Int) := IntWalk.i64_in _ (by have := HV.out; omega)
  have wk : IntKind.i64.wrap (kk : Int) = (kk : Int) := IntWalk.i64_in _ (by omega)
  have q0 : ¬ (S.size : Int) = 0 := by omega
  have q01 : ¬ S.size = 0 := by omega
  have HKQ := Lib.hid (And.intro hkq (And.intro h5 hne))
  have e0 : (0 : Int) ≤ (kk : Int) := by omega
  have e1 : (kk : Int) ≤ (S.size : Int) := by omega
  have e2 : kk ≤ S.size := by omega
  obtain ⟨P, hP⟩ : ∃ P, S.extract 0 kk = P := ⟨_, rfl⟩
  have hps : P.size ≤ 5000 := by
    have q := congrArg List.length (congrArg (fun (z : ByteArray) => z.data.toList) (cut_take S kk))
    simp only [ba_list] at q
    rw [List.length_take, ba_len, ba_len, hP] at q
    omega
  have DC := dpar_cut HPF.out (k := kk) (by rw [ba_len]; omega)
  rw [cut_take, hP] at DC
  have hlc : LC P ≤ 5000 := by
    unfold LC
    have := List.count_le_length (a := (10 : UInt8)) (l := P.data.toList)
    rw [ba_len] at this
    omega
  have WL : IntKind.i64.wrap ((LC P : Int) + 1) = (LC P : Int) + 1 := IntWalk.i64_in _ (by omega)
  have RL := Lib.hid (rlines_any P (by omega))
  have PA := Lib.hid (fun V (h : Below W0.heap.size W0 V) => parse_any P (by omega) V (HG.out.later (bel_trans B0.out h)))
  have eps : (P.toList == P.toList) = true := by simp
  have HPZ := Lib.hid hps
  have HDC := Lib.hid DC
  clear hkk hkq h5 hne hts DC hps hlc
  rcases Nat.eq_zero_or_pos kk with hz | hz
  · rw [HDC.out.2 (fun q => q.1 hz)] at PA
    have z0 : ((kk : Int) == 0) = true := by rw [hz]; rfl
    clear hz
    go_upto_region 8 with (first
      | (go_at_call 15; ((with_reducible refine (PA.out _ B2.out).mono ?_); rintro e w3 ⟨rfl, b3⟩; have B3 := Lib.hid (bel_trans B2.out b3); clear b3))
      | fail)
    obtain ⟨W4, hW4⟩ : ∃ W4, W4 = w3.alloc (Obj.cells #[Value.slice none 0 0] 24) := ⟨_, rfl⟩
    have B4 := Lib.hid (show Below W0.heap.size W0 W4 by rw [hW4]; exact bel_alloc B3.out _)
    have Z4 := Lib.hid (show W4.heap[w3.heap.size]? = some (.cells #[.slice none 0 0] 24 (0, 0)) by rw [hW4]; exact heap_alloc_new w3 _)
    rw [← hW4]
    clear hW4
    go_wp2_with (first
      | (go_at_call 8; ((with_reducible refine (LV.out _ B4.out).mono ?_); rintro e w5 ⟨rfl, b5⟩; have B5 := Lib.hid (bel_trans B4.out b5); have c0 : w5.cell? ⟨w3.heap.size, 0, none⟩ = some (.slice none 0 0) := cellh (keep_bel b5 Z4.out) rfl; clear b5))
      | (go_at_call 12; ((with_reducible refine (RL.out _).mono ?_); rintro e w6 ⟨rfl, hw⟩; (have hw2 := hw.symm; subst hw2; clear hw)))
      | fail)
    go_ret
    exact ⟨rfl, bel_trans B0.out B5.out⟩
  · obtain ⟨j, hj⟩ : ∃ j, kk = j + 1 := ⟨kk - 1, by omega⟩
    obtain ⟨x, hx⟩ : ∃ x, S.data.toList[j]? = some x := ⟨_, List.getElem?_eq_getElem (by rw [ba_len]; have := HKQ.out.1; omega)⟩
    have k0 : (0 : Int) ≤ (j : Int) := by omega
    have k1 : (j : Int) < (S.size : Int) := by have := HKQ.out.1; omega
    have hj9 : j < S.size := by have := HKQ.out.1; omega
    have WJ : IntKind.i64.wrap ((kk : Int) - 1) = (j : Int) := by rw [IntWalk.i64_in _ (by omega)]; omega
    have z0 : ((kk : Int) == 0) = false := beq_eq_false_iff_ne.2 (by omega)
    have hx2 : S[j]'hj9 = x := by
      have q := (List.getElem?_eq_some_iff.1 hx).2
      rw [← q]; rfl
    by_cases h10 : x = 10
    · obtain ⟨xs, hxs⟩ := HDC.out.1 ⟨by omega, by rw [show kk - 1 = j by omega, hx, h10]⟩
      have d1 : (((S[j]'hj9).toNat : Int) == 10) = true := by rw [hx2, h10]; rfl
      rw [hxs] at PA
      obtain ⟨q1, q2, q3⟩ := dpar_back hxs
      obtain ⟨m, hm⟩ : ∃ m, m = xs.length := ⟨_, rfl⟩
      have HM := Lib.hid hm
      have hxl : (dprL xs).length ≤ 5000 := by rw [q1, ba_len]; exact HPZ.out
      have hat : xs.zipIdx.all toldAt = true := by
        have q := told_of q2 q3
        unfold toldB at q
        rw [Bool.and_eq_true] at q
        exact q.2
      have Q2 := Lib.hid (fun V (nb : Nat) (ns2 : List NC) (h : NT V (some ⟨nb, 0, none⟩) ns2 xs) => (show Calls Tryz.prog 10 #[.agg #[.slice (some ⟨nb, 0, none⟩) m m]] V fun e w' => e = .returned (.tuple #[.string P, .int .i64 0]) ∧ Below V.heap.size V w' by
        have q := qprint_any (some ⟨nb, 0, none⟩) m m ns2 xs V h hm.symm (by omega) (nsm_text q2 (by omega)) (fun y hy => nin_of (q2.2 y hy)) (by omega)
        unfold qprT at q
        rw [if_pos hat, q1, ba_mk] at q
        exact q))
      clear hz hj hx hx2 h10 hxs q1 q2 q3 hm hxl hat
      go_upto_region 8 with (first
        | (go_at_call 15; ((with_reducible refine (PA.out _ B2.out).mono ?_); rintro e w3 ⟨⟨nb, lo, O, ns2, rfl, hnb, hns⟩, b3⟩; have B3 := Lib.hid (bel_trans B2.out b3); have N3 := Lib.hid hns.nt; clear hnb hns b3))
        | fail)
      rw [← HM.out]
      obtain ⟨W4, hW4⟩ : ∃ W4, W4 = w3.alloc (Obj.cells #[Value.slice (some ⟨nb, 0, none⟩) m m] 24) := ⟨_, rfl⟩
      have B4 := Lib.hid (show Below W0.heap.size W0 W4 by rw [hW4]; exact bel_alloc B3.out _)
      have c0 : W4.cell? ⟨w3.heap.size, 0, none⟩ = some (.slice (some ⟨nb, 0, none⟩) m m) := cellh (show W4.heap[w3.heap.size]? = some (.cells #[.slice (some ⟨nb, 0, none⟩) m m] 24 (0, 0)) by rw [hW4]; exact heap_alloc_new w3 _) rfl
      have N4 := Lib.hid (show NT W4 (some ⟨nb, 0, none⟩) ns2 xs by rw [hW4]; exact N3.out.later (alb w3 _))
      rw [← hW4]
      clear hW4
      go_wp2_with (first
        | (go_at_call 10; ((with_reducible refine (Q2.out _ _ _ N4.out).mono ?_); rintro e w5 ⟨rfl, b5⟩; have B5 := Lib.hid (bel_trans B4.out b5); clear b5))
        | (go_at_call 8; ((with_reducible refine (LV.out _ B5.out).mono ?_); rintro e w6 ⟨rfl, b6⟩; have B6 := Lib.hid (bel_trans B5.out b6); clear b6))
        | fail)
      go_ret
      exact ⟨rfl, bel_trans B0.out B6.out⟩
    · rw [HDC.out.2 (fun q => by
        have q2 := q.2
        rw [show kk - 1 = j by omega, hx] at q2
        injection q2 with q2
        exact h10 q2)] at PA
      have d1 : (((S[j]'hj9).toNat : Int) == 10) = false := by
        rw [hx2]
        have : x.toNat ≠ 10 := fun e => h10 (UInt8.toNat_inj.1 e)
        simp; omega
      clear hz hj hx hx2 h10
      go_upto_region 8 with (first
        | (go_at_call 15; ((with_reducible refine (PA.out _ B2.out).mono ?_); rintro e w3 ⟨rfl, b3⟩; have B3 := Lib.hid (bel_trans B2.out b3); clear b3))
        | fail)
      obtain ⟨W4, hW4⟩ : ∃ W4, W4 = w3.alloc (Obj.cells #[Value.slice none 0 0] 24) := ⟨_, rfl⟩
      have B4 := Lib.hid (show Below W0.heap.size W0 W4 by rw [hW4]; exact bel_alloc B3.out _)
      have Z4 := Lib.hid (show W4.heap[w3.heap.size]? = some (.cells #[.slice none 0 0] 24 (0, 0)) by rw [hW4]; exact heap_alloc_new w3 _)
      rw [← hW4]
      clear hW4
      go_wp2_with (first
        | (go_at_call 8; ((with_reducible refine (LV.out _ B4.out).mono ?_); rintro e w5 ⟨rfl, b5⟩; have B5 := Lib.hid (bel_trans B4.out b5); have c0 : w5.cell? ⟨w3.heap.size, 0, none⟩ = some (.slice none 0 0) := cellh (keep_bel b5 Z4.out) rfl; clear b5))
        | (go_at_call 12; ((with_reducible refine (RL.out _).mono ?_); rintro e w6 ⟨rfl, hw⟩; (have hw2 := hw.symm; subst hw2; clear hw)))
        | fail)
      go_ret
      exact ⟨rfl, bel_trans B0.out B5.out⟩
end Go.Proofs.YtdebedeebmmleaaGreatDoor
