/- Texts of the proof, one behind the other. -/
import Derived.Test.YtdebedeebmmleaaGreatDoorTp29
import Derived.Test.YtdebedeebmmleaaGreatDoorTp33
import Derived.Test.YtdebedeebmmleaaGreatDoorTp01
import Derived.Test.YtdebedeebmmleaaGreatDoorTp27
set_option linter.unusedVariables false
set_option linter.unusedSimpArgs false
namespace Go.Proofs.YtdebedeebmmleaaGreatDoor
open Go.RowKit Go.Maps
def liveY : List NdV := [⟨0, [], [], [], []⟩, ⟨2, [], [2], [], []⟩, ⟨1, [], [], [], []⟩]
abbrev liveS : ByteArray := ⟨#[116, 114, 101, 101, 32, 51, 10, 105, 110, 110, 101, 114, 32, 49, 32, 50, 10, 108, 101, 97, 102, 32, 50, 10]⟩
theorem live_text : (⟨(dprL liveY).toArray⟩ : ByteArray) = liveS := by kernel_rfl
theorem live_par : dparF liveS = .ok liveY := by kernel_rfl
theorem live_told : TAll liveY := by
  unfold liveY
  refine ⟨fun y h => by injection h with h; rw [← h], fun y h => ?_⟩
  simp only [List.mem_cons, List.not_mem_nil, or_false] at h
  rcases h with rfl | rfl | rfl
  · exact .inl ⟨rfl, rfl, rfl, rfl, rfl⟩
  · exact .inr (.inr ⟨rfl, rfl, rfl, by simp, by simp⟩)
  · exact .inr (.inl ⟨rfl, rfl, rfl, rfl⟩)
theorem live_sm : ∀ y ∈ liveY, NSm y := by
  unfold liveY
  intro y h
  simp only [List.mem_cons, List.not_mem_nil, or_false] at h
  rcases h with rfl | rfl | rfl <;> exact ⟨by simp, by simp, by simp, by simp⟩
def nH : Hd := ⟨none, 0, 0⟩
def liveC (b : Nat) : List NC := [⟨0, nH, nH, nH, nH⟩, ⟨2, nH, ⟨some ⟨b, 0, none⟩, 1, 1⟩, nH, nH⟩, ⟨1, nH, nH, nH, nH⟩]
theorem rd_nil {α : Type} {E : RE α} {w : World} {A : Option Addr} : E.Rd w A [] := .inl rfl
theorem nrd_nil {w : World} {k : Int} : NRd w ⟨k, nH, nH, nH, nH⟩ [] ⟨k, [], [], [], []⟩ :=
  ⟨rfl, ⟨rfl, rd_nil⟩, ⟨rfl, rd_nil⟩, ⟨rfl, rd_nil⟩, rfl, rd_nil, rfl, fun i h l hh hl => by cases hh⟩
theorem live_nt {w : World} {b g : Nat} (h0 : w.heap[b]? = some (.cells #[.int .i64 2] 3 (0, 0))) (h1 : w.heap[g]? = some (.cells #[.int .u8 0, .slice none 0 0, .slice none 0 0, .slice none 0 0, .slice none 0 0, .int .u8 2, .slice none 0 0, .slice (some ⟨b, 0, none⟩) 1 1, .slice none 0 0, .slice none 0 0, .int .u8 1, .slice none 0 0, .slice none 0 0, .slice none 0 0, .slice none 0 0] 44 (0, 0))) : NT w (some ⟨g, 0, none⟩) (liveC b) liveY := by
  refine ⟨rd_block (t := 44) h1, rfl, fun i x y hx hy => ?_⟩
  match i, hx, hy with
  | 0, hx, hy => injection hx with hx; injection hy with hy; subst hx hy; exact ⟨[], nrd_nil⟩
  | 1, hx, hy =>
    injection hx with hx; injection hy with hy; subst hx hy
    exact ⟨[], rfl, ⟨rfl, rd_nil⟩, ⟨rfl, rd_block (E := EI) (xs := [2]) (t := 3) h0⟩, ⟨rfl, rd_nil⟩, rfl, rd_nil, rfl, fun i h l hh hl => by cases hh⟩
  | 2, hx, hy => injection hx with hx; injection hy with hy; subst hx hy; exact ⟨[], nrd_nil⟩
  | n + 3, hx, hy => cases hx
set_option maxHeartbeats 4000000 in
set_option maxRecDepth 100000 in
theorem live_any (w : World) (hg : GW w) : Calls Tryz.prog 8 #[] w fun e w' => e = .returned (.bool true) ∧ Below w.heap.size w w' := by
  obtain ⟨W1, hW1⟩ : ∃ W1, W1 = (((w.alloc (Obj.cells #[Value.int IntKind.i64 2] 3)).alloc (Obj.cells #[Value.int IntKind.u8 0, Value.slice none 0 0, Value.slice none 0 0, Value.slice none 0 0, Value.slice none 0 0, Value.int IntKind.u8 2, Value.slice none 0 0, Value.slice (some { block := w.heap.size, off := 0 }) 1 1, Value.slice none 0 0, Value.slice none 0 0, Value.int IntKind.u8 1, Value.slice none 0 0, Value.slice none 0 0, Value.slice none 0 0, Value.slice none 0 0] 44)).alloc (Obj.cells #[Value.slice (some { block := w.heap.size + 1, off := 0 }) 3 3] 24)) := ⟨_, rfl⟩
  have B1 := Lib.hid (show Below w.heap.size w W1 by rw [hW1]; exact bel_alloc (bel_alloc (alb w _) _) _)
  have N1 := Lib.hid (show NT W1 (some ⟨w.heap.size + 1, 0, none⟩) (liveC w.heap.size) liveY by
    rw [hW1]
    refine live_nt (keep_bel (alb _ _) (keep_bel (alb _ _) (heap_alloc_new w _))) (keep_bel (alb _ _) ?_)
    have := heap_alloc_new (w.alloc (Obj.cells #[Value.int IntKind.i64 2] 3)) (Obj.cells #[Value.int IntKind.u8 0, Value.slice none 0 0, Value.slice none 0 0, Value.slice none 0 0, Value.slice none 0 0, Value.int IntKind.u8 2, Value.slice none 0 0, Value.slice (some { block := w.heap.size, off := 0 }) 1 1, Value.slice none 0 0, Value.slice none 0 0, Value.int IntKind.u8 1, Value.slice none 0 0, Value.slice none 0 0, Value.slice none 0 0, Value.slice none 0 0] 44)
    simpa using this)
  have Z1 := Lib.hid (show W1.heap[w.heap.size + 1 + 1]? = some (.cells #[.slice (some ⟨w.heap.size + 1, 0, none⟩) 3 3] 24 (0, 0)) by
    rw [hW1]
    have := heap_alloc_new ((w.alloc (Obj.cells #[Value.int IntKind.i64 2] 3)).alloc (Obj.cells #[Value.int IntKind.u8 0, Value.slice none 0 0, Value.slice none 0 0, Value.slice none 0 0, Value.slice none 0 0, Value.int IntKind.u8 2, Value.slice none 0 0, Value.slice (some { block := w.heap.size, off := 0 }) 1 1, Value.slice none 0 0, Value.slice none 0 0, Value.int IntKind.u8 1, Value.slice none 0 0, Value.slice none 0 0, Value.slice none 0 0, Value.slice none 0 0] 44)) (Obj.cells #[Value.slice (some { block := w.heap.size + 1, off := 0 }) 3 3] 24)
    simpa using this)
  have HG := Lib.hid hg
  have PR := Lib.hid (print_ok (some ⟨w.heap.size + 1, 0, none⟩) 3 3 (liveC w.heap.size) liveY W1 (hg.later B1.out) N1.out rfl (by omega) live_sm live_told (by have h := congrArg ByteArray.size live_text; rw [ba_size] at h; rw [h]; decide))
  rw [live_text] at PR
  have c0 : W1.cell? ⟨w.heap.size + 1 + 1, 0, none⟩ = some (.slice (some ⟨w.heap.size + 1, 0, none⟩) 3 3) := cellh Z1.out rfl
  have PA := Lib.hid (fun V (h : Below w.heap.size w V) => parse_any liveS (by decide) V (hg.later h))
  rw [live_par] at PA
  clear hg
  go_enter Tryz.func8, Tryz.ntmps8
  go_upto_region 2 with fail
  rw [← hW1]
  clear hW1
  go_upto_region 3 with (first
    | (go_at_call 9; ((with_reducible refine PR.out.mono ?_); rintro e w2 ⟨rfl, b2⟩; have B2 := Lib.hid (bel_trans B1.out b2); have Y2 := Lib.hid b2; clear b2))
    | fail)
  clear c0
  go_upto_region 4 with (first
    | (go_at_call 15; ((with_reducible refine (PA.out _ B2.out).mono ?_); rintro e w3 ⟨⟨nb, lo, O, ns, rfl, hnb, hns⟩, b3⟩; have B3 := Lib.hid (bel_trans Y2.out b3); have N3 := Lib.hid hns.nt; clear hnb hns b3))
    | fail)
  simp only [show liveY.length = 3 from rfl]
  obtain ⟨W4, hW4⟩ : ∃ W4, W4 = w3.alloc (Obj.cells #[Value.slice (some { block := nb, off := 0 }) 3 3] 24) := ⟨_, rfl⟩
  have B4 := Lib.hid (show Below W1.heap.size W1 W4 by rw [hW4]; exact bel_alloc B3.out _)
  have N4 := Lib.hid (show NT W4 (some ⟨nb, 0, none⟩) ns liveY by rw [hW4]; exact N3.out.later (alb w3 _))
  have c4 : W4.cell? ⟨w3.heap.size, 0, none⟩ = some (.slice (some ⟨nb, 0, none⟩) 3 3) := cellh (show W4.heap[w3.heap.size]? = some (.cells #[.slice (some ⟨nb, 0, none⟩) 3 3] 24 (0, 0)) by rw [hW4]; exact heap_alloc_new w3 _) rfl
  have c1 : W4.cell? ⟨w.heap.size + 1 + 1, 0, none⟩ = some (.slice (some ⟨w.heap.size + 1, 0, none⟩) 3 3) := cellh (keep_bel B4.out Z1.out) rfl
  have SA := Lib.hid (tsame_any (some ⟨nb, 0, none⟩) (some ⟨w.heap.size + 1, 0, none⟩) 3 3 3 3 ns (liveC w.heap.size) liveY liveY true W4 (by simp) N4.out (N1.out.later B4.out) rfl rfl (by omega) live_sm live_sm)
  have LI := Lib.hid (fun V (h : Below W1.heap.size W1 V) => lines_any (some ⟨w.heap.size + 1, 0, none⟩) 3 3 (liveC w.heap.size) liveY V (HG.out.later (B1.out.trans (h.mono B1.out.size))) (N1.out.later h) rfl (by omega) live_sm)
  rw [told_of live_told (by unfold liveY; simp)] at LI
  rw [← hW4]
  clear hW4
  go_wp2_with (first
    | (go_at_call 14; ((with_reducible refine SA.out.mono ?_); rintro e w5 ⟨rfl, b5⟩; have B5 := Lib.hid (bel_trans B4.out b5); replace c1 : w5.cell? ⟨w.heap.size + 1 + 1, 0, none⟩ = some (.slice (some ⟨w.heap.size + 1, 0, none⟩) 3 3) := cellh (keep_bel B5.out Z1.out) rfl; clear b5))
    | (go_at_call 11; ((with_reducible refine (LI.out _ B5.out).mono ?_); rintro e w6 ⟨rfl, b6⟩; have B6 := Lib.hid (bel_trans B5.out b6); clear b6))
    | fail)
  go_ret
  exact ⟨by rfl, B1.out.trans (B6.out.mono B1.out.size)⟩
end Go.Proofs.YtdebedeebmmleaaGreatDoor
namespace Go.Proofs.YtdebedeebmmleaaGreatDoor
open Go.RowKit Go.Maps
theorem tms_of {m : M} (h : tmB m = true) (hd : 0 ≤ m.dl ∧ m.dl ≤ 18446744073709551615) : TMs m := by
  unfold tmB at h
  simp only [Bool.and_eq_true, decide_eq_true_eq] at h
  exact ⟨mf_k h.2, h.1, h.2, hd⟩
theorem nd_of {y : NdV} (h : nodeB y = true) (hi : NIn y) : TNd y := by
  unfold nodeB at h
  by_cases h0 : y.k = 0
  · rw [if_pos h0, decide_eq_true_eq] at h
    exact .inl ⟨h0, List.eq_nil_of_length_eq_zero (by omega), List.eq_nil_of_length_eq_zero (by omega), List.eq_nil_of_length_eq_zero (by omega), List.eq_nil_of_length_eq_zero (by omega)⟩
  · rw [if_neg h0] at h
    by_cases h1 : y.k = 1
    · rw [if_pos h1, decide_eq_true_eq] at h
      exact .inr (.inl ⟨h1, List.eq_nil_of_length_eq_zero (by omega), List.eq_nil_of_length_eq_zero (by omega), List.eq_nil_of_length_eq_zero (by omega)⟩)
    · rw [if_neg h1] at h
      by_cases h2 : y.k = 2
      · rw [if_pos h2] at h
        simp only [Bool.and_eq_true, decide_eq_true_eq, Bool.not_eq_true'] at h
        refine .inr (.inr ⟨h2, List.eq_nil_of_length_eq_zero h.1, h.2.1, fun v hv => ?_, fun m hm => ?_⟩)
        · have q := List.any_eq_false.1 h.2.2.1 v hv
          unfold kdB at q
          simp at q
          omega
        · have q := List.any_eq_false.1 h.2.2.2 m hm
          exact tms_of (by simpa using q) (hi.m m hm)
      · rw [if_neg h2] at h
        cases h
theorem tall_of {ys : List NdV} (h : ys.zipIdx.all toldAt = true) (hq : ∀ y ∈ ys, NQ y) : TAll ys := by
  rw [List.all_eq_true] at h
  refine ⟨fun y hy => ?_, fun y hy => ?_⟩
  · have q := h (y, 0) (List.mem_of_getElem? (zi_get hy))
    unfold toldAt at q
    simp only [Bool.and_eq_true, Bool.or_eq_true, decide_eq_true_eq] at q
    rcases q.2 with q | q
    · exact absurd rfl q
    · exact q
  · obtain ⟨i, hi⟩ := List.mem_iff_getElem?.1 hy
    have q := h (y, i) (List.mem_of_getElem? (zi_get hi))
    unfold toldAt at q
    simp only [Bool.and_eq_true] at q
    exact nd_of q.1 (hq y hy).i
end Go.Proofs.YtdebedeebmmleaaGreatDoor
namespace Go.Proofs.YtdebedeebmmleaaGreatDoor
open Go.RowKit Go.Maps
theorem lc_line {ws : List ByteArray} (r : List UInt8) (h0 : ws ≠ []) (h1 : ∀ x ∈ ws, Cl x) : (lineL ws ++ r).count 10 = r.count 10 + 1 := lc_next (next_lineL ws r h0 h1)
theorem lc_flat {α : Type} (f : α → List ByteArray) (r : List UInt8) : ∀ (zs : List α), (∀ z ∈ zs, f z ≠ [] ∧ ∀ x ∈ f z, Cl x) → (zs.flatMap (fun z => lineL (f z)) ++ r).count 10 = r.count 10 + zs.length
  | [], _ => by simp
  | z :: zs, h => by
    rw [List.flatMap_cons, List.append_assoc, lc_line _ (h z (by simp)).1 (h z (by simp)).2, lc_flat f r zs (fun x hx => h x (List.mem_cons_of_mem _ hx)), List.length_cons]
    omega
theorem lc_node {y : NdV} (i : Nat) (h : TNd y) (r : List UInt8) : (nodeL i y ++ r).count 10 = r.count 10 + lnAt y := by
  unfold nodeL lnAt
  rcases h with ⟨h0, h1, h2, h3, h4⟩ | ⟨h0, h1, h2, h3⟩ | ⟨h0, h1, h2, h3, h4⟩
  · rw [if_neg (by omega), if_neg (by omega), if_pos h0]
    simp
  · rw [if_pos h0, if_neg (by omega), h3, List.append_assoc, lc_line _ (by simp) (by
      intro x hx
      simp only [List.mem_cons, List.not_mem_nil, or_false] at hx
      rcases hx with rfl | rfl
      · exact cl_words.2.2.2.2.2.1
      · exact cl_itoa _), lc_flat bWd r y.bl (fun z _ => b_cl)]
    simp
    omega
  · rw [if_neg (by omega), if_pos h0, if_neg (by omega), h1, List.append_assoc, lc_line _ (by simp) (by
      intro x hx
      rcases List.mem_cons.1 hx with rfl | hx
      · exact cl_words.2.2.2.2.2.2.1
      rcases List.mem_cons.1 hx with rfl | hx
      · exact cl_itoa _
      · exact k_cl _ _ x hx), lc_flat mWd r y.ms (fun z _ => mg_cl)]
    simp
    omega
theorem lc_nodes : ∀ (ys : List NdV) (v : Nat), (∀ y ∈ ys, TNd y) → ((ys.zipIdx v).flatMap (fun x => nodeL x.2 x.1)).count 10 = (ys.map lnAt).sum
  | [], _, _ => rfl
  | y :: ys, v, h => by
    rw [zi_cons, List.flatMap_cons]
    show (nodeL v y ++ _).count 10 = _
    rw [lc_node v (h y (by simp)), lc_nodes ys (v + 1) (fun x hx => h x (List.mem_cons_of_mem _ hx)), List.map_cons, List.sum_cons]
    omega
theorem lc_tree {ys : List NdV} (h : TAll ys) : LC ⟨(dprL ys).toArray⟩ = lnN ys := by
  show (dprL ys).count 10 = _
  unfold dprL lnN
  rw [lc_line _ (by simp) (by
    intro x hx
    simp only [List.mem_cons, List.not_mem_nil, or_false] at hx
    rcases hx with rfl | rfl
    · exact cl_words.2.2.2.2.1
    · exact cl_itoa _)]
  unfold nodesL
  rw [lc_nodes ys 0 h.2]
  omega
/-- A call's contract, in every later world. -/
def CQ (w : World) (f : Nat) (args : Array Value) (v : Value) : Prop := ∀ W, Below w.heap.size w W → Calls Tryz.prog f args W fun e w' => e = .returned v ∧ Below W.heap.size W w'
theorem both_print {A : Option Addr} {n c : Nat} {ns : List NC} {ys : List NdV} {w : World} (hg : GW w) (hT : NT w A ns ys) (hl : ys.length = n) (hF : Few ys) (hq : ∀ y ∈ ys, NQ y) :
    ∃ (S : ByteArray) (er m : Int), CQ w 9 #[.agg #[.slice A n c]] (.tuple #[.string S, .int .i64 er]) ∧ CQ w 10 #[.agg #[.slice A n c]] (.tuple #[.string S, .int .i64 er]) ∧ CQ w 11 #[.agg #[.slice A n c]] (.int .i64 m) ∧ CQ w 12 #[.string S] (.int .i64 m) := by
  have h40 := hF.n
  have hs := few_nsm hF
  have hx := few_text hF hq
  have hi : ∀ y ∈ ys, NIn y := fun y hy => (hq y hy).i
  have QP := fun W (hW : Below w.heap.size w W) => qprint_any A n c ns ys W (hT.later hW) hl (by omega) hs hi (by omega)
  have LN := fun W (hW : Below w.heap.size w W) => lines_any A n c ns ys W (hg.later hW) (hT.later hW) hl (by omega) hs
  have e0 : toldB ys = ys.zipIdx.all toldAt := by unfold toldB; rw [decide_eq_true (by omega : ys.length ≤ 4097), Bool.true_and]
  by_cases ht : ys.zipIdx.all toldAt = true
  · have ha := tall_of ht hq
    refine ⟨⟨(dprL ys).toArray⟩, 0, (lnN ys : Nat), fun W hW => print_ok A n c ns ys W (hg.later hW) (hT.later hW) hl (by omega) hs ha (by omega), fun W hW => ?_, fun W hW => ?_, fun W hW => ?_⟩
    · have q := QP W hW
      unfold qprT at q
      rw [if_pos ht] at q
      exact q
    · have q := LN W hW
      rw [e0, if_pos ht] at q
      exact q
    · rw [← lc_tree ha]
      refine (rlines_any _ (by rw [ba_size]; omega) W).mono ?_
      rintro e w' ⟨rfl, rfl⟩
      exact ⟨rfl, Below.refl _ _⟩
  · have hf : toldB ys = false := by rw [e0]; simpa using ht
    refine ⟨⟨#[]⟩, 3, 0, fun W hW => print_no A n c ns ys W (hg.later hW) (hT.later hW) hl (by omega) hs hf, fun W hW => ?_, fun W hW => ?_, fun W hW => ?_⟩
    · have q := QP W hW
      unfold qprT at q
      rw [if_neg ht] at q
      exact q
    · have q := LN W hW
      rw [e0, if_neg ht] at q
      exact q
    · refine (rlines_any ⟨#[]⟩ (by decide) W).mono ?_
      rintro e w' ⟨rfl, rfl⟩
      exact ⟨rfl, Below.refl _ _⟩
set_option maxHeartbeats 4000000 in
set_option maxRecDepth 100000 in
theorem prints_any (A A' : Option Addr) (n n' c c' : Nat) (ns ns' : List NC) (ys ys' : List NdV) (w : World) (hg : GW w) (hT : NT w A ns ys) (hT' : NT w A' ns' ys') (hl : ys.length = n) (hl' : ys'.length = n') (hq : ∀ y ∈ ys, NQ y) (hq' : ∀ y ∈ ys', NQ y) :
    Calls Tryz.prog 3 #[.agg #[.slice A n c], .agg #[.slice A' n' c']] w fun e w' => e = .returned (.bool true) ∧ Below w.heap.size w w' := by
  obtain ⟨W0, hW0⟩ : ∃ W0, W0 = (w.alloc (.cells #[.slice A n c] 24)).alloc (.cells #[.slice A' n' c'] 24) := ⟨_, rfl⟩
  have B0 := Lib.hid (show Below w.heap.size w W0 by rw [hW0]; exact bel_alloc (alb w _) _)
  have Z0 := Lib.hid (show W0.heap[w.heap.size]? = some (.cells #[.slice A n c] 24 (0, 0)) by rw [hW0]; exact keep_bel (alb _ _) (heap_alloc_new w _))
  have Y0 := Lib.hid (show W0.heap[w.heap.size + 1]? = some (.cells #[.slice A' n' c'] 24 (0, 0)) by
    rw [hW0]
    have := heap_alloc_new (w.alloc (.cells #[.slice A n c] 24)) (.cells #[.slice A' n' c'] 24)
    simpa using this)
  have CC := Lib.hid (fun V (h : Below W0.heap.size W0 V) => (show V.cell? ⟨w.heap.size, 0, none⟩ = some (.slice A n c) ∧ V.cell? ⟨w.heap.size + 1, 0, none⟩ = some (.slice A' n' c') from ⟨cellh (keep_bel h Z0.out) rfl, cellh (keep_bel h Y0.out) rfl⟩))
  obtain ⟨c0, d0⟩ := CC.out W0 (Below.refl _ _)
  have FW := Lib.hid (few_any A n c ns ys W0 (hT.later B0.out) hl)
  have FW2 := Lib.hid (fun V (h : Below W0.heap.size W0 V) => few_any A' n' c' ns' ys' V (hT'.later (bel_trans B0.out h)) hl')
  have LV := Lib.hid (fun V (h : Below W0.heap.size W0 V) => live_any V (hg.later (bel_trans B0.out h)))
  have HK := Lib.hid (fun (f1 : Few ys) (f2 : Few ys') => (show (∃ (S : ByteArray) (er m : Int) (b : Bool), CQ w 9 #[.agg #[.slice A n c]] (.tuple #[.string S, .int .i64 er]) ∧ CQ w 10 #[.agg #[.slice A n c]] (.tuple #[.string S, .int .i64 er]) ∧ CQ w 11 #[.agg #[.slice A n c]] (.int .i64 m) ∧ CQ w 12 #[.string S] (.int .i64 m) ∧ CQ w 13 #[.agg #[.slice A n c], .agg #[.slice A' n' c']] (.bool b) ∧ CQ w 14 #[.agg #[.slice A n c], .agg #[.slice A' n' c']] (.bool b) ∧ CQ w 13 #[.agg #[.slice A n c], .agg #[.slice A n c]] (.bool true)) by
    obtain ⟨S, er, m, h1, h2, h3, h4⟩ := both_print (c := c) hg hT hl f1 hq
    obtain ⟨b, hb⟩ := bool_ex (ys = ys')
    have k1 := f1.n
    have s1 := few_nsm f1
    have s2 := few_nsm f2
    exact ⟨S, er, m, b, h1, h2, h3, h4, fun W h => pts_any A A' n n' c c' ns ns' ys ys' b W hb (hT.later h) (hT'.later h) hl hl' (by omega) s1 s2, fun W h => tsame_any A A' n n' c c' ns ns' ys ys' b W hb (hT.later h) (hT'.later h) hl hl' (by omega) s1 s2, fun W h => pts_any A A n n c c ns ns ys ys true W (by simp) (hT.later h) (hT.later h) hl hl (by omega) s1 s1⟩))
  clear hg hT hT' hl hl' hq hq'
  go_enter Tryz.func3, Tryz.ntmps3
  go_upto_region 1 with fail
  rw [← hW0]
  clear hW0
  go_upto_region 3 with (first
    | (go_at_call 7; ((with_reducible refine FW.out.mono ?_); rintro e w1 ⟨⟨b, rfl, hb⟩, b1⟩; have B1 := Lib.hid b1; have HB1 := Lib.hid hb; obtain ⟨c0, d0⟩ := CC.out w1 b1; clear b1 hb; cases b))
    | (go_at_call 7; ((with_reducible refine (FW2.out _ B1.out).mono ?_); rintro e w2 ⟨⟨b, rfl, hb⟩, b2⟩; have B2 := Lib.hid (bel_trans B1.out b2); have HB2 := Lib.hid hb; obtain ⟨c0, d0⟩ := CC.out w2 B2.out; clear b2 hb; cases b))
    | (go_at_call 8; ((with_reducible refine (LV.out _ B2.out).mono ?_); rintro e w3 ⟨rfl, b3⟩; have B3 := Lib.hid (bel_trans B2.out b3); clear b3))
    | (go_at_call 8; ((with_reducible refine (LV.out _ B1.out).mono ?_); rintro e w3 ⟨rfl, b3⟩; have B3 := Lib.hid (bel_trans B1.out b3); clear b3))
    | fail)
  · go_ret
    exact ⟨rfl, bel_trans B0.out B3.out⟩
  · go_ret
    exact ⟨rfl, bel_trans B0.out B3.out⟩
  obtain ⟨S, er, m, b, h9, h10, h11, h12, h13, h14, h15⟩ := HK.out (HB1.out (by trivial)) (HB2.out (by trivial))
  unfold CQ at h9 h10 h11 h12 h13 h14 h15
  have H9 := Lib.hid h9
  have H10 := Lib.hid h10
  have H11 := Lib.hid h11
  have H12 := Lib.hid h12
  have H13 := Lib.hid h13
  have H14 := Lib.hid h14
  have H15 := Lib.hid h15
  clear h9 h10 h11 h12 h13 h14 h15 HK HB1 HB2 FW FW2
  go_upto_region 4 with (first
    | (go_at_call 9; ((with_reducible refine (H9.out _ (bel_trans B0.out B2.out)).mono ?_); rintro e w3 ⟨rfl, b3⟩; have B3 := Lib.hid (bel_trans B2.out b3); clear b3))
    | fail)
  clear c0 d0
  obtain ⟨c0, d0⟩ := CC.out w3 B3.out
  go_upto_region 5 with (first
    | (go_at_call 10; ((with_reducible refine (H10.out _ (bel_trans B0.out B3.out)).mono ?_); rintro e w4 ⟨rfl, b4⟩; have B4 := Lib.hid (bel_trans B3.out b4); clear b4))
    | fail)
  clear c0 d0
  refine wp_region_held_drew (S := (fun V : World => Below w4.heap.size w4 V)) (by kernel_rfl) ?_ (fun hHeld => ?_)
  · exact (Below.refl _ w4).drew
  have HHeld := Lib.hid hHeld; clear hHeld
  refine wpAnyH_ready (rs := [0]) (by kernel_rfl) (by simp) ?_
  refine AllReadyH.cons (o := { dst := some 28, op := Op.call { callee := Callee.value (Operand.func 8), args := #[], argTypes := #[] }, type := 4, pos := "law.go:29", after := #[], guard := none }) rfl (fun K hK => ?_) AllReadyH.nil
  go_simp
  (go_at_call 8; ((with_reducible refine (LV.out _ (bel_trans B4.out HHeld.out)).mono ?_); rintro e v5 ⟨rfl, bb⟩; have K5 := Lib.hid (HHeld.out.trans (bb.mono HHeld.out.size)); clear bb))
  refine hK.out _ _ ?_ (fun hHeld => ?_)
  · exact K5.out
  clear HHeld; have HHeld := Lib.hid hHeld; clear hHeld
  clear hK K
  try simp only [pu, pn, s1, s2, s3]
  refine wT (i := 1) (oi := { dst := some 29, op := Op.move (Operand.tmp 28), type := 4, pos := "law.go:29", after := #[{ on := 0, ground := Ground.data }, { on := 0, ground := Ground.chain }], guard := none }) (v := ?_) rfl (Or.inl ⟨by rfl, ?_⟩) HHeld.out ?_
  rotate_left
  · intro w hSw; clear hSw; go_simp; try with_reducible rfl
  try simp only [pu, pn, s1, s2, s3]
  refine wT (i := 2) (oi := { dst := some 30, op := Op.move (Operand.tmp 5), type := 9, pos := "law.go:29", after := #[{ on := 1, ground := Ground.guard }], guard := some (1, true) }) (v := ?_) rfl (Or.inl ⟨by rfl, ?_⟩) HHeld.out ?_
  rotate_left
  · intro w hSw; clear hSw; go_simp; try with_reducible rfl
  try simp only [pu, pn, s1, s2, s3]
  refine wT (i := 3) (oi := { dst := some 31, op := Op.move (Operand.tmp 7), type := 9, pos := "law.go:29", after := #[{ on := 1, ground := Ground.guard }], guard := some (1, true) }) (v := ?_) rfl (Or.inl ⟨by rfl, ?_⟩) HHeld.out ?_
  rotate_left
  · intro w hSw; clear hSw; go_simp; try with_reducible rfl
  try simp only [pu, pn, s1, s2, s3]
  refine wT (i := 4) (oi := { dst := some 32, op := Op.binOp BinOp.eql 9 (Operand.tmp 30) (Operand.tmp 31) 9, type := 4, pos := "law.go:29", after := #[{ on := 2, ground := Ground.data }, { on := 3, ground := Ground.data }, { on := 1, ground := Ground.guard }], guard := some (1, true) }) (v := ?_) rfl (Or.inl ⟨by rfl, ?_⟩) HHeld.out ?_
  rotate_left
  · intro w hSw; clear hSw; go_simp; try with_reducible rfl
  try simp only [pu, pn, s1, s2, s3]
  refine wT (i := 5) (oi := { dst := some 33, op := Op.pick (Operand.tmp 29) (Operand.tmp 32) (Operand.const (Value.bool false)), type := 4, pos := "law.go:29", after := #[{ on := 1, ground := Ground.data }, { on := 4, ground := Ground.data }], guard := none }) (v := ?_) rfl (Or.inl ⟨by rfl, ?_⟩) HHeld.out ?_
  rotate_left
  · intro w hSw; clear hSw; go_simp; try with_reducible rfl
  try simp only [pu, pn, s1, s2, s3]
  refine wT (i := 6) (oi := { dst := some 34, op := Op.move (Operand.tmp 33), type := 4, pos := "law.go:29", after := #[{ on := 5, ground := Ground.data }, { on := 1, ground := Ground.chain }], guard := none }) (v := ?_) rfl (Or.inl ⟨by rfl, ?_⟩) HHeld.out ?_
  rotate_left
  · intro w hSw; clear hSw; go_simp; try with_reducible rfl
  try simp only [pu, pn, s1, s2, s3]
  refine wT (i := 7) (oi := { dst := some 35, op := Op.move (Operand.tmp 6), type := 27, pos := "law.go:29", after := #[{ on := 6, ground := Ground.guard }], guard := some (6, true) }) (v := ?_) rfl (Or.inl ⟨by rfl, ?_⟩) HHeld.out ?_
  rotate_left
  · intro w hSw; clear hSw; go_simp; try with_reducible rfl
  try simp only [pu, pn, s1, s2, s3]
  refine wT (i := 8) (oi := { dst := some 36, op := Op.move (Operand.tmp 8), type := 27, pos := "law.go:29", after := #[{ on := 6, ground := Ground.guard }], guard := some (6, true) }) (v := ?_) rfl (Or.inl ⟨by rfl, ?_⟩) HHeld.out ?_
  rotate_left
  · intro w hSw; clear hSw; go_simp; try with_reducible rfl
  try simp only [pu, pn, s1, s2, s3]
  refine wT (i := 9) (oi := { dst := some 37, op := Op.binOp BinOp.eql 27 (Operand.tmp 35) (Operand.tmp 36) 27, type := 4, pos := "law.go:29", after := #[{ on := 7, ground := Ground.data }, { on := 8, ground := Ground.data }, { on := 6, ground := Ground.guard }], guard := some (6, true) }) (v := ?_) rfl (Or.inl ⟨by rfl, ?_⟩) HHeld.out ?_
  rotate_left
  · intro w hSw; clear hSw; go_simp; try with_reducible rfl
  try simp only [pu, pn, s1, s2, s3]
  refine wT (i := 10) (oi := { dst := some 38, op := Op.pick (Operand.tmp 34) (Operand.tmp 37) (Operand.const (Value.bool false)), type := 4, pos := "law.go:29", after := #[{ on := 6, ground := Ground.data }, { on := 9, ground := Ground.data }], guard := none }) (v := ?_) rfl (Or.inl ⟨by rfl, ?_⟩) HHeld.out ?_
  rotate_left
  · intro w hSw; clear hSw; go_simp; try with_reducible rfl
  try simp only [pu, pn, s1, s2, s3]
  refine wT (i := 11) (oi := { dst := some 39, op := Op.move (Operand.tmp 38), type := 4, pos := "law.go:29", after := #[{ on := 10, ground := Ground.data }, { on := 6, ground := Ground.chain }], guard := none }) (v := ?_) rfl (Or.inl ⟨by rfl, ?_⟩) HHeld.out ?_
  rotate_left
  · intro w hSw; clear hSw; go_simp; try with_reducible rfl
  try simp only [pu, pn, s1, s2, s3]
  refine wT (i := 12) (oi := { dst := some 40, op := Op.load 24 (Operand.tmp 2), type := 24, pos := "law.go:29", after := #[{ on := 11, ground := Ground.guard }], guard := some (11, true) }) (v := (.agg #[.slice A n c] : Value)) rfl (Or.inl ⟨by rfl, ?_⟩) HHeld.out ?_
  · intro V hV; have hc0 := (CC.out _ (bel_trans B4.out hV)).1; clear hV; go_simp
  try simp only [pu, pn, s1, s2, s3]
  refine wT (i := 14) (oi := { dst := some 42, op := Op.move (Operand.tmp 7), type := 9, pos := "law.go:29", after := #[{ on := 11, ground := Ground.guard }], guard := some (11, true) }) (v := ?_) rfl (Or.inl ⟨by rfl, ?_⟩) HHeld.out ?_
  rotate_left
  · intro w hSw; clear hSw; go_simp; try with_reducible rfl
  try simp only [pu, pn, s1, s2, s3]
  refine wpAnyH_ready (rs := [13]) (by kernel_rfl) (by simp) ?_
  refine AllReadyH.cons (o := { dst := some 41, op := Op.call { callee := Callee.value (Operand.func 11), args := #[Operand.tmp 40], argTypes := #[24] }, type := 3, pos := "law.go:29", after := #[{ on := 12, ground := Ground.data }, { on := 11, ground := Ground.chain }, { on := 11, ground := Ground.guard }], guard := some (11, true) }) rfl (fun K hK => ?_) AllReadyH.nil
  go_simp
  (go_at_call 11; ((with_reducible refine (H11.out _ (bel_trans B0.out (bel_trans B4.out HHeld.out))).mono ?_); rintro e v6 ⟨rfl, bb⟩; have K6 := Lib.hid (HHeld.out.trans (bb.mono HHeld.out.size)); clear bb))
  refine hK.out _ _ ?_ (fun hHeld => ?_)
  · exact K6.out
  clear HHeld; have HHeld := Lib.hid hHeld; clear hHeld
  clear hK K
  try simp only [pu, pn, s1, s2, s3]
  refine wpAnyH_ready (rs := [15]) (by kernel_rfl) (by simp) ?_
  refine AllReadyH.cons (o := { dst := some 43, op := Op.call { callee := Callee.value (Operand.func 12), args := #[Operand.tmp 42], argTypes := #[9] }, type := 3, pos := "law.go:29", after := #[{ on := 14, ground := Ground.data }, { on := 13, ground := Ground.chain }, { on := 11, ground := Ground.guard }], guard := some (11, true) }) rfl (fun K hK => ?_) AllReadyH.nil
  go_simp
  (go_at_call 12; ((with_reducible refine (H12.out _ (bel_trans B0.out (bel_trans B4.out HHeld.out))).mono ?_); rintro e v7 ⟨rfl, bb⟩; have K7 := Lib.hid (HHeld.out.trans (bb.mono HHeld.out.size)); clear bb))
  refine hK.out _ _ ?_ (fun hHeld => ?_)
  · exact K7.out
  clear HHeld; have HHeld := Lib.hid hHeld; clear hHeld
  clear hK K
  try simp only [pu, pn, s1, s2, s3]
  refine wT (i := 16) (oi := { dst := some 44, op := Op.binOp BinOp.eql 3 (Operand.tmp 41) (Operand.tmp 43) 3, type := 4, pos := "law.go:29", after := #[{ on := 13, ground := Ground.data }, { on := 15, ground := Ground.data }, { on := 11, ground := Ground.guard }], guard := some (11, true) }) (v := ?_) rfl (Or.inl ⟨by rfl, ?_⟩) HHeld.out ?_
  rotate_left
  · intro w hSw; clear hSw; go_simp; try with_reducible rfl
  try simp only [pu, pn, s1, s2, s3]
  refine wT (i := 17) (oi := { dst := some 45, op := Op.pick (Operand.tmp 39) (Operand.tmp 44) (Operand.const (Value.bool false)), type := 4, pos := "law.go:29", after := #[{ on := 11, ground := Ground.data }, { on := 16, ground := Ground.data }], guard := none }) (v := ?_) rfl (Or.inl ⟨by rfl, ?_⟩) HHeld.out ?_
  rotate_left
  · intro w hSw; clear hSw; go_simp; try with_reducible rfl
  try simp only [pu, pn, s1, s2, s3]
  refine wT (i := 18) (oi := { dst := some 46, op := Op.move (Operand.tmp 45), type := 4, pos := "law.go:29", after := #[{ on := 17, ground := Ground.data }, { on := 15, ground := Ground.chain }], guard := none }) (v := ?_) rfl (Or.inl ⟨by rfl, ?_⟩) HHeld.out ?_
  rotate_left
  · intro w hSw; clear hSw; go_simp; try with_reducible rfl
  try simp only [pu, pn, s1, s2, s3]
  refine wT (i := 19) (oi := { dst := some 47, op := Op.load 24 (Operand.tmp 2), type := 24, pos := "law.go:29", after := #[{ on := 18, ground := Ground.guard }], guard := some (18, true) }) (v := (.agg #[.slice A n c] : Value)) rfl (Or.inl ⟨by rfl, ?_⟩) HHeld.out ?_
  · intro V hV; have hc0 := (CC.out _ (bel_trans B4.out hV)).1; clear hV; go_simp
  try simp only [pu, pn, s1, s2, s3]
  refine wT (i := 20) (oi := { dst := some 48, op := Op.load 24 (Operand.tmp 3), type := 24, pos := "law.go:29", after := #[{ on := 18, ground := Ground.guard }], guard := some (18, true) }) (v := (.agg #[.slice A' n' c'] : Value)) rfl (Or.inl ⟨by rfl, ?_⟩) HHeld.out ?_
  · intro V hV; have hc0 := (CC.out _ (bel_trans B4.out hV)).2; clear hV; go_simp
  try simp only [pu, pn, s1, s2, s3]
  refine wT (i := 22) (oi := { dst := some 50, op := Op.load 24 (Operand.tmp 2), type := 24, pos := "law.go:29", after := #[{ on := 18, ground := Ground.guard }], guard := some (18, true) }) (v := (.agg #[.slice A n c] : Value)) rfl (Or.inl ⟨by rfl, ?_⟩) HHeld.out ?_
  · intro V hV; have hc0 := (CC.out _ (bel_trans B4.out hV)).1; clear hV; go_simp
  try simp only [pu, pn, s1, s2, s3]
  refine wT (i := 23) (oi := { dst := some 51, op := Op.load 24 (Operand.tmp 3), type := 24, pos := "law.go:29", after := #[{ on := 18, ground := Ground.guard }], guard := some (18, true) }) (v := (.agg #[.slice A' n' c'] : Value)) rfl (Or.inl ⟨by rfl, ?_⟩) HHeld.out ?_
  · intro V hV; have hc0 := (CC.out _ (bel_trans B4.out hV)).2; clear hV; go_simp
  try simp only [pu, pn, s1, s2, s3]
  refine wpAnyH_ready (rs := [21]) (by kernel_rfl) (by simp) ?_
  refine AllReadyH.cons (o := { dst := some 49, op := Op.call { callee := Callee.value (Operand.func 13), args := #[Operand.tmp 47, Operand.tmp 48], argTypes := #[24, 24] }, type := 4, pos := "law.go:29", after := #[{ on := 19, ground := Ground.data }, { on := 20, ground := Ground.data }, { on := 18, ground := Ground.chain }, { on := 18, ground := Ground.guard }], guard := some (18, true) }) rfl (fun K hK => ?_) AllReadyH.nil
  go_simp
  (go_at_call 13; ((with_reducible refine (H13.out _ (bel_trans B0.out (bel_trans B4.out HHeld.out))).mono ?_); rintro e v8 ⟨rfl, bb⟩; have K8 := Lib.hid (HHeld.out.trans (bb.mono HHeld.out.size)); clear bb))
  refine hK.out _ _ ?_ (fun hHeld => ?_)
  · exact K8.out
  clear HHeld; have HHeld := Lib.hid hHeld; clear hHeld
  clear hK K
  try simp only [pu, pn, s1, s2, s3]
  refine wpAnyH_ready (rs := [24]) (by kernel_rfl) (by simp) ?_
  refine AllReadyH.cons (o := { dst := some 52, op := Op.call { callee := Callee.value (Operand.func 14), args := #[Operand.tmp 50, Operand.tmp 51], argTypes := #[24, 24] }, type := 4, pos := "law.go:29", after := #[{ on := 22, ground := Ground.data }, { on := 23, ground := Ground.data }, { on := 21, ground := Ground.chain }, { on := 18, ground := Ground.guard }], guard := some (18, true) }) rfl (fun K hK => ?_) AllReadyH.nil
  go_simp
  (go_at_call 14; ((with_reducible refine (H14.out _ (bel_trans B0.out (bel_trans B4.out HHeld.out))).mono ?_); rintro e v9 ⟨rfl, bb⟩; have K9 := Lib.hid (HHeld.out.trans (bb.mono HHeld.out.size)); clear bb))
  refine hK.out _ _ ?_ (fun hHeld => ?_)
  · exact K9.out
  clear HHeld; have HHeld := Lib.hid hHeld; clear hHeld
  clear hK K
  try simp only [pu, pn, s1, s2, s3]
  refine wT (i := 25) (oi := { dst := some 53, op := Op.binOp BinOp.eql 4 (Operand.tmp 49) (Operand.tmp 52) 4, type := 4, pos := "law.go:29", after := #[{ on := 21, ground := Ground.data }, { on := 24, ground := Ground.data }, { on := 18, ground := Ground.guard }], guard := some (18, true) }) (v := ?_) rfl (Or.inl ⟨by rfl, ?_⟩) HHeld.out ?_
  rotate_left
  · intro w hSw; clear hSw; go_simp; try with_reducible rfl
  try simp only [pu, pn, s1, s2, s3]
  refine wT (i := 26) (oi := { dst := some 54, op := Op.pick (Operand.tmp 46) (Operand.tmp 53) (Operand.const (Value.bool false)), type := 4, pos := "law.go:29", after := #[{ on := 18, ground := Ground.data }, { on := 25, ground := Ground.data }], guard := none }) (v := ?_) rfl (Or.inl ⟨by rfl, ?_⟩) HHeld.out ?_
  rotate_left
  · intro w hSw; clear hSw; go_simp; try with_reducible rfl
  try simp only [pu, pn, s1, s2, s3]
  refine wT (i := 27) (oi := { dst := some 55, op := Op.move (Operand.tmp 54), type := 4, pos := "law.go:29", after := #[{ on := 26, ground := Ground.data }, { on := 24, ground := Ground.chain }], guard := none }) (v := ?_) rfl (Or.inl ⟨by rfl, ?_⟩) HHeld.out ?_
  rotate_left
  · intro w hSw; clear hSw; go_simp; try with_reducible rfl
  try simp only [pu, pn, s1, s2, s3]
  refine wT (i := 28) (oi := { dst := some 56, op := Op.load 24 (Operand.tmp 2), type := 24, pos := "law.go:29", after := #[{ on := 27, ground := Ground.guard }], guard := some (27, true) }) (v := (.agg #[.slice A n c] : Value)) rfl (Or.inl ⟨by rfl, ?_⟩) HHeld.out ?_
  · intro V hV; have hc0 := (CC.out _ (bel_trans B4.out hV)).1; clear hV; go_simp
  try simp only [pu, pn, s1, s2, s3]
  refine wT (i := 29) (oi := { dst := some 57, op := Op.load 24 (Operand.tmp 2), type := 24, pos := "law.go:29", after := #[{ on := 27, ground := Ground.guard }], guard := some (27, true) }) (v := (.agg #[.slice A n c] : Value)) rfl (Or.inl ⟨by rfl, ?_⟩) HHeld.out ?_
  · intro V hV; have hc0 := (CC.out _ (bel_trans B4.out hV)).1; clear hV; go_simp
  try simp only [pu, pn, s1, s2, s3]
  refine wpAnyH_ready (rs := [30]) (by kernel_rfl) (by simp) ?_
  refine AllReadyH.cons (o := { dst := some 58, op := Op.call { callee := Callee.value (Operand.func 13), args := #[Operand.tmp 56, Operand.tmp 57], argTypes := #[24, 24] }, type := 4, pos := "law.go:29", after := #[{ on := 28, ground := Ground.data }, { on := 29, ground := Ground.data }, { on := 27, ground := Ground.chain }, { on := 27, ground := Ground.guard }], guard := some (27, true) }) rfl (fun K hK => ?_) AllReadyH.nil
  go_simp
  (go_at_call 13; ((with_reducible refine (H15.out _ (bel_trans B0.out (bel_trans B4.out HHeld.out))).mono ?_); rintro e v10 ⟨rfl, bb⟩; have K10 := Lib.hid (HHeld.out.trans (bb.mono HHeld.out.size)); clear bb))
  refine hK.out _ _ ?_ (fun hHeld => ?_)
  · exact K10.out
  clear HHeld; have HHeld := Lib.hid hHeld; clear hHeld
  clear hK K
  try simp only [pu, pn, s1, s2, s3]
  refine wT (i := 31) (oi := { dst := some 59, op := Op.pick (Operand.tmp 55) (Operand.tmp 58) (Operand.const (Value.bool false)), type := 4, pos := "law.go:29", after := #[{ on := 27, ground := Ground.data }, { on := 30, ground := Ground.data }], guard := none }) (v := ?_) rfl (Or.inl ⟨by rfl, ?_⟩) HHeld.out ?_
  rotate_left
  · intro w hSw; clear hSw; go_simp; try with_reducible rfl
  try simp only [pu, pn, s1, s2, s3]
  refine wT (i := 32) (oi := { dst := some 4, op := Op.assign (Operand.tmp 59), type := 4, pos := "law.go:29", after := #[{ on := 31, ground := Ground.data }, { on := 30, ground := Ground.chain }, { on := 0, ground := Ground.phase }, { on := 1, ground := Ground.phase }, { on := 2, ground := Ground.phase }, { on := 3, ground := Ground.phase }, { on := 4, ground := Ground.phase }, { on := 5, ground := Ground.phase }, { on := 6, ground := Ground.phase }, { on := 7, ground := Ground.phase }, { on := 8, ground := Ground.phase }, { on := 9, ground := Ground.phase }, { on := 10, ground := Ground.phase }, { on := 11, ground := Ground.phase }, { on := 12, ground := Ground.phase }, { on := 13, ground := Ground.phase }, { on := 14, ground := Ground.phase }, { on := 15, ground := Ground.phase }, { on := 16, ground := Ground.phase }, { on := 17, ground := Ground.phase }, { on := 18, ground := Ground.phase }, { on := 19, ground := Ground.phase }, { on := 20, ground := Ground.phase }, { on := 21, ground := Ground.phase }, { on := 22, ground := Ground.phase }, { on := 23, ground := Ground.phase }, { on := 24, ground := Ground.phase }, { on := 25, ground := Ground.phase }, { on := 26, ground := Ground.phase }, { on := 27, ground := Ground.phase }, { on := 28, ground := Ground.phase }, { on := 29, ground := Ground.phase }, { on := 30, ground := Ground.phase }, { on := 31, ground := Ground.phase }], guard := none }) (v := ?_) rfl (Or.inl ⟨by rfl, ?_⟩) HHeld.out ?_
  rotate_left
  · intro w hSw; clear hSw; go_simp; try with_reducible rfl
  try simp only [pu, pn, s1, s2, s3]
  refine wpAnyH_done (by kernel_rfl) ?_ _
  have BE := Lib.hid (bel_trans B0.out (bel_trans B4.out HHeld.out))
  clear HHeld
  go_wp2
  go_ret
  exact ⟨rfl, BE.out⟩
end Go.Proofs.YtdebedeebmmleaaGreatDoor
