/- Texts of the proof, one behind the other. -/
import Derived.Test.YtelpkajlejbbgaaGreatDoorTd02
import Derived.Lib.AppendIntMem
import Derived.Shelf.Strings.BuilderK
import Derived.Test.YtelpkajlejbbgaaGreatDoorTd01
import Derived.Test.YtelpkajlejbbgaaGreatDoorRows
set_option linter.unusedVariables false
set_option linter.unusedSimpArgs false
namespace Go.Proofs.YtelpkajlejbbgaaGreatDoor
open Go.RowKit Go.Maps Go.Sort
theorem itoa_any (n : Int) (h0 : -9223372036854775808 ≤ n) (h1 : n ≤ 9223372036854775807) (w : World) (h : GW w) :
    Calls Tryz.prog 49 #[.int .i64 n] w fun e w' => e = .returned (.string (itoaB n)) ∧ Below w.heap.size w w' :=
  (sh_strconv_Itoa n h0 h1 w h.tb).mono fun e w' ⟨h1, k, os, h2⟩ => ⟨h1, by rw [h2]; exact Lib.below_grow _ w (Nat.le_refl _) k os⟩
theorem atoi_any (t : ByteArray) (ht : t.size ≤ 281474976710656) (w : World) (h : GW w) :
    Calls Tryz.prog 100 #[.string t] w fun e w' => ∃ v er, e = .returned (.tuple #[.int .i64 v, er]) ∧ ((er = .nilIface ∧ Lib.atoiAll t.data.toList = .ok v ∧ -9223372036854775808 ≤ v ∧ v ≤ 9223372036854775807) ∨ ((∃ te pe, er = .iface te pe) ∧ canB t = none)) ∧ Below w.heap.size w w' := by
  obtain ⟨e2, h2, h3⟩ := h.sy
  obtain ⟨e4, h4, h5⟩ := h.rg
  rcases q : Lib.atoiAll t.data.toList with v | _ | _
  · refine (sh_strconv_Atoi_ok t (by omega) v q w).mono fun e w' ⟨r1, r2⟩ => ⟨v, .nilIface, r1, .inl ⟨rfl, rfl, (Lib.atoiAll_bounds q).1, (Lib.atoiAll_bounds q).2⟩, ?_⟩
    rcases r2 with r2 | r2
    · rw [r2]; exact Below.refl _ _
    · first
        | (rw [r2]; exact Lib.bytesWorld_below w 5 _)
        | (obtain ⟨t2, r2⟩ := r2; rw [r2]; exact Lib.bytesWorld_below w 5 t2)
  · refine (sh_strconv_Atoi_syntax t ht (q.trans (by kernel_rfl)) e2 w h2 h3).mono fun e w' ⟨N, r1, r2, r3, r4⟩ => ⟨0, _, r1, .inr ⟨⟨_, _, rfl⟩, by unfold canB; rw [q]⟩, r4⟩
  · refine (sh_strconv_Atoi_range t ht q e4 w h4 h5).mono fun e w' ⟨N, r1, r2, r3, r4⟩ => ⟨_, _, r1, .inr ⟨⟨_, _, rfl⟩, by unfold canB; rw [q]⟩, r4⟩
theorem puint_any (t : ByteArray) (ht : t.size ≤ 281474976710656) (w : World) (h : GW w) :
    Calls Tryz.prog 117 #[.string t, .int .i64 10, .int .i64 64] w fun e w' => ∃ (v : Nat) (er : Value), e = .returned (.tuple #[.int .u64 v, er]) ∧ ((er = .nilIface ∧ Lib.parseUintB 64 t.data.toList = .ok v ∧ v ≤ 18446744073709551615) ∨ ((∃ te pe, er = .iface te pe) ∧ delB t = none)) ∧ Below w.heap.size w w' := by
  obtain ⟨e2, h2, h3⟩ := h.sy
  obtain ⟨e4, h4, h5⟩ := h.rg
  rcases q : Lib.parseUintB 64 t.data.toList with v | _ | _
  · refine (sh_strconv_ParseUint_10_at64_ok t (by omega) v q w).mono fun e w' ⟨r1, r2⟩ => ⟨v, .nilIface, r1, .inl ⟨rfl, rfl, by have := Lib.parseUintB_le q; omega⟩, ?_⟩
    rcases r2 with r2 | r2
    · rw [r2]; exact Below.refl _ _
    · rw [r2]; exact Lib.bytesWorld_below w 5 _
  · refine (sh_strconv_ParseUint_10_at64_syntax t ht (q.trans (by kernel_rfl)) e2 w h2 h3).mono fun e w' ⟨N, r1, r2, r3, r4⟩ => ⟨0, _, r1, .inr ⟨⟨_, _, rfl⟩, by unfold delB; rw [q]⟩, r4⟩
  · refine (sh_strconv_ParseUint_10_at64_range t ht q e4 w h4 h5).mono fun e w' ⟨N, r1, r2, r3, r4⟩ => ⟨18446744073709551615, _, r1, .inr ⟨⟨_, _, rfl⟩, by unfold delB; rw [q]⟩, r4⟩
set_option maxHeartbeats 4000000 in
set_option maxRecDepth 100000 in
theorem futoa_in (u : Nat) (hu : u ≤ 18446744073709551615) (w : World) (h : GW w) :
    Calls Tryz.prog 86 #[.int .u64 u, .int .i64 10] w fun e w' => e = .returned (.string (utoaB u)) ∧ Below w.heap.size w w' := by
  have mixed : Tryz.prog.follows Departure.mixedOrders = true := by kernel_rfl
  by_cases hs : u < 100
  · have k1 : (u : Int) < 100 := by omega
    have wr : IntKind.i64.wrap (u : Int) = u := IntWalk.i64_in _ (by omega)
    clear h
    go_enter Tryz.func86, Tryz.ntmps86
    go_wp2_with (first
      | (go_at_call 96; ((refine (sh_internal_strconv_small u hs _).mono ?_); rintro e w1 ⟨rfl, rfl⟩))
      | fail)
    go_ret
    exact ⟨rfl, Below.refl _ _⟩
  · have k1 : ¬ (u : Int) < 100 := by omega
    have htab := h.tb
    have hu1 : 1 ≤ u := by omega
    have hu64 : u < 18446744073709551616 := by omega
    have hnd20 : Lib.nDigits u ≤ 20 := by have := Lib.numDigits_eq u hu1 hu64; split at this <;> omega
    have hb3 : Lib.nDigits u ≤ 24 := by omega
    have hal : Tryz.prog.arrayLen 134 = 24 := by simp [Program.arrayLen, Tryz.underlying134]
    have hsl1 : ∀ W, (Instr.sliceAt 134 (.pointer (some ⟨w.heap.size, 0, none⟩)) none (some (.int .i64 (Lib.nDigits u : Int))) none).run Tryz.prog W = .ok (.slice (some ⟨w.heap.size, 0, none⟩) (Lib.nDigits u) 24) W := fun W => by
      rw [run_sliceAt_array_h W 134 ⟨w.heap.size, 0, none⟩ (by simp [Program.arrayLen, Program.elem, Tryz.underlying134]) .i64 (Lib.nDigits u : Int) (by omega) (by rw [hal]; omega)]
      go_simp
    have hH0 : Holds (fun (b : UInt8) => Value.int .u8 (b.toNat : Int)) (w.alloc (.cells Lib.zeros24 134)) w.heap.size 0 (Array.replicate (Lib.nDigits u) (0 : UInt8)) := fun j hj => by
      have hj' : j < Lib.nDigits u := by simpa using hj
      refine ⟨?_, World.frozen?_alloc_new _ _ _ _⟩
      rw [World.cell?_alloc_new, Lib.zeros24_at _ (by omega), getElem!_pos _ j hj]
      simp
    have hfmt := sh_internal_strconv_formatBase10 w.heap.size 0 24 u (Array.replicate (Lib.nDigits u) 0) (w.alloc (.cells Lib.zeros24 134)) hH0 (by rw [Array.size_replicate]; exact Lib.lt_pow_nDigits u) hu64 (by rw [Array.size_replicate]; omega)
    rw [Array.size_replicate] at hfmt
    have HH0 := Lib.hid hH0
    clear hH0 hal h
    go_enter Tryz.func86, Tryz.ntmps86
    go_wp2_with (first
      | (go_at_call 97; refine (sh_internal_strconv_numDigits u hu1 hu64 _ (Lib.tabIs_alloc htab _)).mono ?_; rintro e w' ⟨rfl, rfl⟩)
      | fail)
    go_at_call 98
    refine hfmt.mono ?_
    rintro e w' ⟨rfl, k, v', dk, rfl, hF⟩
    have hcv : (convert 55 9 (.slice (some ⟨w.heap.size, 0, none⟩) (Lib.nDigits u) 24)).run Tryz.prog ((putRow (fun (b : UInt8) => Value.int .u8 (b.toNat : Int)) (w.alloc (.cells Lib.zeros24 134)) w.heap.size 0 dk).drewN k) = .ok (.string ⟨(Lib.decDigits u).toArray⟩) ((putRow (fun (b : UInt8) => Value.int .u8 (b.toNat : Int)) (w.alloc (.cells Lib.zeros24 134)) w.heap.size 0 dk).drewN k) := by
      have h := run_convert_bytes_back (P := Tryz.prog) ((putRow (fun (b : UInt8) => Value.int .u8 (b.toNat : Int)) (w.alloc (.cells Lib.zeros24 134)) w.heap.size 0 dk).drewN k) 55 9 5 ⟨w.heap.size, 0, none⟩ 24 (Lib.decDigits u) Tryz.underlying55 Tryz.underlying5 Tryz.underlying9 (fun j hj => by
        rw [Lib.row_is_numeral hF j hj, Lib.add_plain, World.cell?_drewN]
        exact cell?_putRow (fun (b : UInt8) => Value.int .u8 (b.toNat : Int)) _ w.heap.size 0 _ dk HH0.out (by rw [hF.size, Array.size_replicate]) j (by rw [hF.size]; rw [Lib.decDigits_length] at hj; exact hj))
      rw [Lib.decDigits_length] at h
      exact h
    have hbel : Hid (Below w.heap.size w ((putRow (fun (b : UInt8) => Value.int .u8 (b.toNat : Int)) (w.alloc (.cells Lib.zeros24 134)) w.heap.size 0 dk).drewN k)) := Lib.hid (by
      rw [alloc_eq_grow]
      obtain ⟨os', _, e⟩ := putRow_grow_new (fun (b : UInt8) => Value.int .u8 (b.toNat : Int)) w #[.cells Lib.zeros24 134] w.heap.size 0 dk (Nat.le_refl _)
      rw [e]
      exact Lib.below_grow _ w (Nat.le_refl _) k os')
    clear hF hsl1 hfmt
    have hsl2 : ∀ W, (Instr.sliceAt 134 (.pointer (some ⟨w.heap.size, 0, none⟩)) none (some (.int .i64 (Lib.nDigits u : Int))) none).run Tryz.prog W = .ok (.slice (some ⟨w.heap.size, 0, none⟩) (Lib.nDigits u) 24) W := fun W => by
      rw [run_sliceAt_array_h W 134 ⟨w.heap.size, 0, none⟩ (by simp [Program.arrayLen, Program.elem, Tryz.underlying134]) .i64 (Lib.nDigits u : Int) (by omega) (by simp [Program.arrayLen, Tryz.underlying134]; omega)]
      go_simp
    go_wp2
    go_ret
    exact ⟨rfl, hbel.out⟩
set_option maxRecDepth 100000 in
theorem futoa_any (u : Nat) (hu : u ≤ 18446744073709551615) (w : World) (h : GW w) :
    Calls Tryz.prog 71 #[.int .u64 u, .int .i64 10] w fun e w' => e = .returned (.string (utoaB u)) ∧ Below w.heap.size w w' := by
  have HC := Lib.hid (futoa_in u hu w h)
  clear h
  go_enter Tryz.func71, Tryz.ntmps71
  go_wp2_with (first
    | (go_at_call 86; ((refine HC.out.mono ?_); rintro e w1 ⟨rfl, b1⟩))
    | fail)
  go_ret
  exact ⟨rfl, b1⟩
theorem inR_any (v : Int) (w : World) : Calls Tryz.prog 47 #[.int .i64 v] w fun e w' => e = .returned (.bool (inR v)) ∧ w' = w := by
  go_enter Tryz.func47, Tryz.ntmps47
  go_wp2
  all_goals
    go_ret
    exact ⟨by (try simp_all [inR]) <;> (try (intros; omega)), rfl⟩
def numV (t : ByteArray) : Value := match numB t with
  | some v => .tuple #[.int .i64 v, .bool true]
  | none => .tuple #[.int .i64 0, .bool false]
set_option maxHeartbeats 1000000 in
set_option maxRecDepth 100000 in
/-- A word as a number. -/
theorem number_any (t : ByteArray) (ht : t.size ≤ 281474976710656) (w : World) (h : GW w) :
    Calls Tryz.prog 88 #[.string t] w fun e w' => e = .returned (numV t) ∧ Below w.heap.size w w' := by
  have HG := Lib.hid (fun W (b : Below w.heap.size w W) => h.later b)
  have HA := Lib.hid (atoi_any t ht w h)
  clear h
  go_enter Tryz.func88, Tryz.ntmps88
  go_upto_region 2 with (first
    | (go_at_call 100; ((refine HA.out.mono ?_); rintro e w1 ⟨v, er, rfl, hv, b1⟩; have B1 := Lib.hid b1; have HV := Lib.hid hv; clear b1 hv))
    | fail)
  rcases HV.out with ⟨rfl, q, g0, g1⟩ | ⟨⟨te, pe, rfl⟩, q⟩
  · have HI := Lib.hid (fun W (b : Below w.heap.size w W) => itoa_any v g0 g1 W (HG.out _ b))
    have hcan : canB t = if Lib.itoa v = t.data.toList then some v else none := by unfold canB; rw [q]
    cases hr : inR v with
    | false =>
      have HN : Hid (numV t = .tuple #[.int .i64 0, .bool false]) := Lib.hid (by
        unfold numV numB; rw [hcan]
        split
        · rename_i x e
          split at e
          · rename_i y e2
            split at e2
            · cases e2; rw [hr] at e; cases e
            · cases e2
          · cases e
        · rfl)
      have IR := Lib.hid (fun W => inR_any v W)
      rw [hr] at IR
      clear hr hcan q g0 g1
      go_wp2_with (first
        | (go_at_call 47; ((refine (IR.out _).mono ?_); rintro e w2 ⟨rfl, rfl⟩))
        | (go_at_call 49; ((refine (HI.out _ (by first | exact B1.out | exact B1.out.drew)).mono ?_); rintro e w3 ⟨rfl, b3⟩))
        | fail)
      all_goals
        refine bodyPost_ret (v := .tuple #[.int .i64 0, .bool false]) (by simp [results, Tryz.results88, go_sem]) rfl ⟨by rw [HN.out], B1.out⟩
    | true =>
      have IR := Lib.hid (fun W => inR_any v W)
      rw [hr] at IR
      by_cases he : Lib.itoa v = t.data.toList
      · have HN : Hid (numV t = .tuple #[.int .i64 v, .bool true]) := Lib.hid (by
          unfold numV numB; rw [hcan, if_pos he]; simp [hr])
        have e1 : ((itoaB v).toList == t.toList) = true := bytes_eq (ba_inj (by unfold itoaB; rw [ba_list]; exact he))
        have e2 : ((itoaB v).toList != t.toList) = false := by rw [bne, e1]; rfl
        clear hr hcan q g0 g1 he
        go_wp2_with (first
          | (go_at_call 47; ((refine (IR.out _).mono ?_); rintro e w2 ⟨rfl, rfl⟩))
          | (go_at_call 49; ((refine (HI.out _ (by first | exact B1.out | exact B1.out.drew)).mono ?_); rintro e w3 ⟨rfl, b3⟩; have B3 := Lib.hid (bel_trans B1.out b3); clear b3))
          | fail)
        all_goals
          refine bodyPost_ret (v := .tuple #[.int .i64 v, .bool true]) (by simp [results, Tryz.results88, go_sem]) rfl ⟨by rw [HN.out], B3.out⟩
      · have HN : Hid (numV t = .tuple #[.int .i64 0, .bool false]) := Lib.hid (by
          unfold numV numB; rw [hcan, if_neg he])
        have e1 : ((itoaB v).toList == t.toList) = false := bytes_ne (fun e => he (by rw [← e]; unfold itoaB; rw [ba_list]))
        have e2 : ((itoaB v).toList != t.toList) = true := by rw [bne, e1]; rfl
        clear hr hcan q g0 g1 he
        go_wp2_with (first
          | (go_at_call 47; ((refine (IR.out _).mono ?_); rintro e w2 ⟨rfl, rfl⟩))
          | (go_at_call 49; ((refine (HI.out _ (by first | exact B1.out | exact B1.out.drew)).mono ?_); rintro e w3 ⟨rfl, b3⟩; have B3 := Lib.hid (bel_trans B1.out b3); clear b3))
          | fail)
        all_goals
          refine bodyPost_ret (v := .tuple #[.int .i64 0, .bool false]) (by simp [results, Tryz.results88, go_sem]) rfl ⟨by rw [HN.out], B3.out⟩
  · have HN : Hid (numV t = .tuple #[.int .i64 0, .bool false]) := Lib.hid (by
      unfold numV numB; rw [q])
    clear q
    go_wp2
    all_goals
      refine bodyPost_ret (v := .tuple #[.int .i64 0, .bool false]) (by simp [results, Tryz.results88, go_sem]) rfl ⟨by rw [HN.out], B1.out⟩
def delV (t : ByteArray) : Value := match delB t with
  | some v => .tuple #[.int .u64 v, .bool true]
  | none => .tuple #[.int .u64 0, .bool false]
set_option maxHeartbeats 1000000 in
set_option maxRecDepth 100000 in
theorem delta_any (t : ByteArray) (ht : t.size ≤ 281474976710656) (w : World) (h : GW w) :
    Calls Tryz.prog 102 #[.string t] w fun e w' => e = .returned (delV t) ∧ Below w.heap.size w w' := by
  have HG := Lib.hid (fun W (b : Below w.heap.size w W) => h.later b)
  have HA := Lib.hid (puint_any t ht w h)
  clear h
  go_enter Tryz.func102, Tryz.ntmps102
  go_upto_region 2 with (first
    | (go_at_call 117; ((refine HA.out.mono ?_); rintro e w1 ⟨v, er, rfl, hv, b1⟩; have B1 := Lib.hid b1; have HV := Lib.hid hv; clear b1 hv))
    | fail)
  rcases HV.out with ⟨rfl, q, g1⟩ | ⟨⟨te, pe, rfl⟩, q⟩
  · have HI := Lib.hid (fun W (b : Below w.heap.size w W) => futoa_any v g1 W (HG.out _ b))
    have hcan : delB t = if Lib.decDigits v = t.data.toList then some v else none := by unfold delB; rw [q]
    by_cases he : Lib.decDigits v = t.data.toList
    · have HN : Hid (delV t = .tuple #[.int .u64 v, .bool true]) := Lib.hid (by
        unfold delV; rw [hcan, if_pos he])
      have e1 : ((utoaB v).toList == t.toList) = true := bytes_eq (ba_inj (by unfold utoaB; rw [ba_list]; exact he))
      have e2 : ((utoaB v).toList != t.toList) = false := by rw [bne, e1]; rfl
      clear hcan q g1 he
      go_wp2_with (first
        | (go_at_call 71; ((refine (HI.out _ (by first | exact B1.out | exact B1.out.drew)).mono ?_); rintro e w3 ⟨rfl, b3⟩; have B3 := Lib.hid (bel_trans B1.out b3); clear b3))
        | fail)
      all_goals
        refine bodyPost_ret (v := .tuple #[.int .u64 v, .bool true]) (by simp [results, Tryz.results102, go_sem]) rfl ⟨by rw [HN.out], B3.out⟩
    · have HN : Hid (delV t = .tuple #[.int .u64 0, .bool false]) := Lib.hid (by
        unfold delV; rw [hcan, if_neg he])
      have e1 : ((utoaB v).toList == t.toList) = false := bytes_ne (fun e => he (by rw [← e]; unfold utoaB; rw [ba_list]))
      have e2 : ((utoaB v).toList != t.toList) = true := by rw [bne, e1]; rfl
      clear hcan q g1 he
      go_wp2_with (first
        | (go_at_call 71; ((refine (HI.out _ (by first | exact B1.out | exact B1.out.drew)).mono ?_); rintro e w3 ⟨rfl, b3⟩; have B3 := Lib.hid (bel_trans B1.out b3); clear b3))
        | fail)
      all_goals
        refine bodyPost_ret (v := .tuple #[.int .u64 0, .bool false]) (by simp [results, Tryz.results102, go_sem]) rfl ⟨by rw [HN.out], B3.out⟩
  · have HN : Hid (delV t = .tuple #[.int .u64 0, .bool false]) := Lib.hid (by
      unfold delV; rw [q])
    clear q
    go_wp2
    all_goals
      refine bodyPost_ret (v := .tuple #[.int .u64 0, .bool false]) (by simp [results, Tryz.results102, go_sem]) rfl ⟨by rw [HN.out], B1.out⟩
end Go.Proofs.YtelpkajlejbbgaaGreatDoor
namespace Go.Proofs.YtelpkajlejbbgaaGreatDoor
open Go.RowKit Go.Shelf
/-- A builder in block b, that holds these bytes (T: the block's type). -/
abbrev Bd (T : TypeId) (B b : Nat) (l : List UInt8) (w : World) : Prop := Lib.IsBuilderF T 5 B b (Lib.byteCells l) w
def BT (T : TypeId) : Prop := liesAt Tryz.prog Tryz.prog.depth T (2 / Tryz.prog.cellsOf T) 0 57 1 = true ∧ T ≠ 5
theorem bt57 : BT 57 := ⟨by kernel_rfl, by decide⟩
theorem bt59 : BT 59 := ⟨by kernel_rfl, by decide⟩
theorem Bd.bel {T : TypeId} {B b : Nat} {l : List UInt8} {w w' : World} (h : Bd T B b l w) (hb : Below w.heap.size w w') : Bd T B b l w' := by
  have one : ∀ p, Lib.BuilderAtF T 5 B b p (Lib.byteCells l) w → Lib.BuilderAtF T 5 B b p (Lib.byteCells l) w' := by
    rintro p ⟨hB, v, hh, hown, hne⟩
    have hlt : b < w.heap.size := by
      rcases Nat.lt_or_ge b w.heap.size with h' | h'
      · exact h'
      · simp [Array.getElem?_eq_none h'] at hh
    refine ⟨hB, v, (hb.block b hlt).trans hh, hown.kept (bel_grown hb none) ?_, hne⟩
    cases v.ownBlock <;> simp
  exact h.elim (fun x => .inl (one _ x)) (fun x => .inr (one _ x))
theorem Bd.new57 (w : World) : Bd 57 w.heap.size w.heap.size [] (w.alloc (.cells #[.pointer none, .slice none 0 0] 57)) := Lib.IsBuilderF.of (Lib.fresh_isBuilder 57 5 w)
theorem Bd.new59 (w : World) : Bd 59 w.heap.size w.heap.size [] (w.alloc (.cells #[.pointer none, .slice none 0 0] 59)) := Lib.IsBuilderF.of (Lib.fresh_isBuilder 59 5 w)
theorem bldInfo : (Tryz.prog.info? 57).map (·.size) = some 2 := by kernel_rfl
theorem byteInfo : (Tryz.prog.info? 5).map (fun i => (i.zero, i.size, i.bytes)) = some (some (.int .u8 0), 1, 1) := by kernel_rfl
set_option maxHeartbeats 1000000 in
set_option maxRecDepth 100000 in
theorem check_used (b : Nat) (w : World) (h0 : w.cell? ⟨b, 0, none⟩ = some (.pointer (some ⟨b, 0, none⟩))) :
    Calls Tryz.prog 68 #[.pointer (some ⟨b, 0, none⟩)] w fun e w' => e = .returned (.tuple #[]) ∧ w' = w := by
  obtain ⟨j, hj, hjs⟩ := Option.map_eq_some_iff.1 bldInfo
  go_enter Tryz.func68, Tryz.ntmps68
  go_wp2
  rw [Lib.run_neq_ptr_same w _ Tryz.underlying54 hj]
  go_wp2
  go_end0
  exact ⟨rfl, rfl⟩
set_option maxHeartbeats 1000000 in
set_option maxRecDepth 100000 in
theorem check_fresh {T : TypeId} (hT : BT T) (b : Nat) (w : World) (h0 : w.cell? ⟨b, 0, none⟩ = some (.pointer none)) (hsh : w.shape? b = some (T, 2)) (hfz : w.frozen? ⟨b, 0, none⟩ = false) :
    Calls Tryz.prog 68 #[.pointer (some ⟨b, 0, none⟩)] w fun e w' => e = .returned (.tuple #[]) ∧ w' = w.setCell ⟨b, 0, none⟩ (.pointer (some ⟨b, 0, none⟩)) := by
  obtain ⟨j, hj, hjs⟩ := Option.map_eq_some_iff.1 bldInfo
  have HT := Lib.hid hT.1
  clear hT
  go_enter Tryz.func68, Tryz.ntmps68
  go_wp2
  rw [Lib.run_to_unsafe w ⟨b, 0, none⟩ Tryz.underlying54 Tryz.underlying123 hj (by rw [hjs]; decide) hsh (Nat.zero_lt_succ 1)]
  simp only [Result.andThen]
  rw [Oper.upon_value]
  go_wp2
  rw [run_callFunc_extern Tryz.func82 (by kernel_rfl) (by kernel_rfl) (by kernel_rfl) (e := Extern.AbiNoEscape.same) (by kernel_rfl)]
  rw [Lib.run_noEscape]
  simp only [Result.andThen]
  rw [Oper.upon_value]
  go_wp2
  rw [Lib.run_from_unsafe w ⟨b, 0, none⟩ Tryz.underlying123 Tryz.underlying54 hj hsh HT.out]
  simp only [Result.andThen]
  rw [Oper.upon_value]
  go_wp2
  go_end0
  exact ⟨rfl, rfl⟩
theorem check_any {T : TypeId} (hT : BT T) (B b : Nat) (bs : List Value) (w : World) (h : Lib.IsBuilderF T 5 B b bs w) :
    Calls Tryz.prog 68 #[.pointer (some ⟨b, 0, none⟩)] w fun e w' => e = .returned (.tuple #[]) ∧ (Lib.BuilderAtF T 5 B b (.pointer (some ⟨b, 0, none⟩)) bs w' ∧ Below B w w' ∧ Lib.OthersKept 5 (some b) w w') := by
  rcases h with h | h
  · refine (check_fresh hT b w h.cell0 h.shape h.frozen0).mono ?_
    rintro e w' ⟨rfl, rfl⟩
    exact ⟨rfl, h.used _, (Below.refl B w).setCell (p := ⟨b, 0, none⟩) h.1 _, (Lib.OthersKept.refl _ _ w).setCell ⟨b, 0, none⟩ rfl _⟩
  · refine (check_used b w h.cell0).mono ?_
    rintro e w' ⟨rfl, rfl⟩
    exact ⟨rfl, h, Below.refl B _, Lib.OthersKept.refl _ _ _⟩
set_option maxHeartbeats 2000000 in
set_option maxRecDepth 100000 in
theorem writeString_any {T : TypeId} (hT : BT T) (B b : Nat) (l : List UInt8) (s : ByteArray) (w : World) (h : Bd T B b l w) (hlen : l.length + s.size ≤ 140737488355328) (hBw : B ≤ w.heap.size) :
    Calls Tryz.prog 50 #[.pointer (some ⟨b, 0, none⟩), .string s] w fun e w' => e = .returned (.tuple #[.int .i64 s.size, .nilIface]) ∧ Bd T B b (l ++ s.data.toList) w' ∧ Below B w w' ∧ Lib.OthersKept 5 (some b) w w' := by
  obtain ⟨i0, hi, hz0, hz1, hz2⟩ := info_parts byteInfo
  have HC := Lib.hid (check_any hT B b (Lib.byteCells l) w h)
  have HT5 := Lib.hid hT.2
  clear hT h
  go_enter Tryz.func50, Tryz.ntmps50
  go_wp2_with (go_at_call 68; refine HC.out.mono ?_)
  rintro e w1 ⟨rfl, h1, hb1, hk1⟩
  obtain ⟨hB, v, hbk, hown, hne⟩ := h1
  have c0 : w1.cell? ⟨b, 0, none⟩ = some (.pointer (some ⟨b, 0, none⟩)) := by rw [Lib.cell_of_heap hbk]; rfl
  have c1 : w1.cell? ⟨b, 1, none⟩ = some v := by rw [Lib.cell_of_heap hbk]; rfl
  have hll : (Lib.byteCells l).length = l.length := Lib.byteCells_length l
  have HLL := Lib.hid hll
  clear hll
  go_wp2_with (at_builtin; refine Lib.wpList_append_own_stringF _ rfl _ _ 55 9 rfl B 5 i0 Tryz.underlying55 Tryz.underlying9 hi hz0 hz1 hz2 _ _ _ rfl hown s rfl ?c3 ?c4 ?c5 ?_)
  case c3 => have := HLL.out; unfold maxLen; omega
  case c4 => have := HLL.out; omega
  case c5 => have := hb1.size; omega
  intro v' w2 hown' hgrow _
  have hlt : b < w1.heap.size := by
    rcases Nat.lt_or_ge b w1.heap.size with h' | h'
    · exact h'
    · simp [Array.getElem?_eq_none h'] at hbk
  have hb2 : w2.heap[b]? = some (.cells #[.pointer (some ⟨b, 0, none⟩), v] T (0, 0)) := by
    rw [hgrow.block b hlt (fun e => hne e.symm)]
    exact hbk
  have d0 : w2.cell? ⟨b, 0, none⟩ = some (.pointer (some ⟨b, 0, none⟩)) := by rw [Lib.cell_of_heap hb2]; rfl
  have d1 : w2.cell? ⟨b, 1, none⟩ = some v := by rw [Lib.cell_of_heap hb2]; rfl
  have f1 : w2.frozen? ⟨b, 1, none⟩ = false := Lib.frozen_of_heap hb2 1
  obtain ⟨ao, n', cap, rfl⟩ : ∃ ao n' cap, v' = .slice ao n' cap := by
    rcases hown'.2 with ⟨hv, _⟩ | ⟨g, cap, cur, fz, hv, _⟩
    · exact ⟨_, _, _, hv⟩
    · exact ⟨_, _, _, hv⟩
  go_wp2
  go_ret2
  refine ⟨rfl, ?_, ?_, (hk1.grown hgrow (Lib.ownsRowF_kind hown)).setCell ⟨b, 1, none⟩ rfl _⟩
  · refine .inr ?_
    have q := Lib.BuilderAtF.put (T := T) (e := 5) hB hb2 (bs' := Lib.byteCells l ++ Lib.strCells s) (by simpa [Lib.strCells_length] using hown') HT5.out
    rw [Lib.strCells_eq, ← Lib.byteCells_append] at q
    exact q
  · exact (hb1.grown hgrow (by have := hb1.size; omega) (fun k hk => (hown.lt k hk).1)).setCell (p := ⟨b, 1, none⟩) hB _
set_option maxHeartbeats 2000000 in
set_option maxRecDepth 100000 in
theorem writeByte_any {T : TypeId} (hT : BT T) (B b : Nat) (l : List UInt8) (c : UInt8) (w : World) (h : Bd T B b l w) (hlen : l.length + 1 ≤ 140737488355328) (hBw : B ≤ w.heap.size) :
    Calls Tryz.prog 45 #[.pointer (some ⟨b, 0, none⟩), .int .u8 c.toNat] w fun e w' => e = .returned .nilIface ∧ Bd T B b (l ++ [c]) w' ∧ Below B w w' ∧ Lib.OthersKept 5 (some b) w w' := by
  obtain ⟨i0, hi, hz0, hz1, hz2⟩ := info_parts byteInfo
  have HC := Lib.hid (check_any hT B b (Lib.byteCells l) w h)
  have HT5 := Lib.hid hT.2
  clear hT h
  go_enter Tryz.func45, Tryz.ntmps45
  go_wp2_with (go_at_call 68; refine HC.out.mono ?_)
  rintro e w1 ⟨rfl, h1, hb1, hk1⟩
  obtain ⟨hB, v, hbk, hown, hne⟩ := h1
  have c0 : w1.cell? ⟨b, 0, none⟩ = some (.pointer (some ⟨b, 0, none⟩)) := by rw [Lib.cell_of_heap hbk]; rfl
  have c1 : w1.cell? ⟨b, 1, none⟩ = some v := by rw [Lib.cell_of_heap hbk]; rfl
  have hll : (Lib.byteCells l).length = l.length := Lib.byteCells_length l
  have HLL := Lib.hid hll
  clear hll
  go_wp2_with (at_builtin; refine wpList_append_ownF _ rfl _ _ 55 rfl B 5 i0 (.int .u8 0) 1 1 Tryz.underlying55 hi hz0 hz1 hz2 rfl (by decide) _ _ _ rfl (hown.alloc _) ⟨w1.heap.size, 0, none⟩ 1 1 [.int .u8 c.toNat] rfl rfl ?c1 ?c2 ?c3 ?c4 ?c5 ?_)
  case c1 =>
    intro j u hj
    match j, hj with
    | 0, hj => simp at hj; subst hj; simp [Addr.add]
  case c2 => intro u hu; simp at hu; subst hu; rfl
  case c3 => have := HLL.out; unfold maxLen; omega
  case c4 => have := HLL.out; omega
  case c5 => have := hb1.size; simp; omega
  intro v' w2 hown' hgrow _
  have hlt : b < w1.heap.size := by
    rcases Nat.lt_or_ge b w1.heap.size with h' | h'
    · exact h'
    · simp [Array.getElem?_eq_none h'] at hbk
  have hb2 : w2.heap[b]? = some (.cells #[.pointer (some ⟨b, 0, none⟩), v] T (0, 0)) := by
    rw [hgrow.block b (by simp; omega) (fun e => hne e.symm), Lib.alloc_old w1 _ b hlt]
    exact hbk
  have d0 : w2.cell? ⟨b, 0, none⟩ = some (.pointer (some ⟨b, 0, none⟩)) := by rw [Lib.cell_of_heap hb2]; rfl
  have d1 : w2.cell? ⟨b, 1, none⟩ = some v := by rw [Lib.cell_of_heap hb2]; rfl
  have f1 : w2.frozen? ⟨b, 1, none⟩ = false := Lib.frozen_of_heap hb2 1
  obtain ⟨ao, n', cap, rfl⟩ : ∃ ao n' cap, v' = .slice ao n' cap := by
    rcases hown'.2 with ⟨hv, _⟩ | ⟨g, cap, cur, fz, hv, _⟩
    · exact ⟨_, _, _, hv⟩
    · exact ⟨_, _, _, hv⟩
  go_wp2
  go_ret
  refine ⟨rfl, ?_, ?_, ((hk1.alloc _).grown hgrow (Lib.ownsRowF_kind (hown.alloc _))).setCell ⟨b, 1, none⟩ rfl _⟩
  · refine .inr ?_
    have q := Lib.BuilderAtF.put (T := T) (e := 5) hB hb2 (bs' := Lib.byteCells l ++ [.int .u8 c.toNat]) (by simpa using hown') HT5.out
    have e : Lib.byteCells l ++ [.int .u8 c.toNat] = Lib.byteCells (l ++ [c]) := by rw [Lib.byteCells_append]; rfl
    rw [e] at q
    exact q
  · exact ((hb1.alloc (by have := hb1.size; omega) _).grown hgrow (by have := hb1.size; simp; omega) (fun k hk => (hown.lt k hk).1)).setCell (p := ⟨b, 1, none⟩) hB _
set_option maxHeartbeats 2000000 in
set_option maxRecDepth 100000 in
theorem len_any {T : TypeId} (B b : Nat) (l : List UInt8) (w : World) (h : Bd T B b l w) :
    Calls Tryz.prog 26 #[.pointer (some ⟨b, 0, none⟩)] w fun e w' => e = .returned (.int .i64 l.length) ∧ w' = w := by
  obtain ⟨p, hAt⟩ : ∃ p, Lib.BuilderAtF T 5 B b p (Lib.byteCells l) w := by
    rcases h with h | h
    · exact ⟨_, h⟩
    · exact ⟨_, h⟩
  obtain ⟨hB, v, hbk, hown, hne⟩ := hAt
  rw [Lib.byteCells_length] at hown
  obtain ⟨A, c, rfl⟩ : ∃ A c, v = .slice A l.length c := by
    rcases hown.2 with ⟨hv, hz⟩ | ⟨g, cap, cur, fz, hv, r⟩
    · exact ⟨none, 0, by rw [hv, hz]⟩
    · exact ⟨_, _, hv⟩
  have c1 : w.cell? ⟨b, 1, none⟩ = some (.slice A l.length c) := by rw [Lib.cell_of_heap hbk]; rfl
  clear hown hne hbk h
  go_enter Tryz.func26, Tryz.ntmps26
  go_wp2
  go_ret
  exact ⟨rfl, rfl⟩
theorem byteCellsOf : Tryz.prog.cellsOf 5 = 1 := by kernel_rfl
set_option maxHeartbeats 2000000 in
set_option maxRecDepth 100000 in
/-- String, of a builder that holds something. -/
theorem string_some {T : TypeId} (B b : Nat) (l : List UInt8) (w : World) (h : Bd T B b l w) (h0 : l ≠ []) :
    Calls Tryz.prog 27 #[.pointer (some ⟨b, 0, none⟩)] w fun e w' => e = .returned (.string ⟨l.toArray⟩) ∧ Below B w w' ∧ Lib.OthersKept 5 (some b) w w' := by
  obtain ⟨p, hAt⟩ : ∃ p, Lib.BuilderAtF T 5 B b p (Lib.byteCells l) w := by
    rcases h with h | h
    · exact ⟨_, h⟩
    · exact ⟨_, h⟩
  obtain ⟨hB, v, hbk, hown, hne⟩ := hAt
  have hl0 : l.length ≠ 0 := by simpa using h0
  rw [Lib.byteCells_length] at hown
  obtain ⟨g, cap, cur, fz, rfl, hbg, hg, hfz, hnc, hcm, hcs, htake⟩ : ∃ g cap cur fz, v = .slice (some ⟨g, 0, none⟩) l.length cap ∧ B ≤ g ∧ w.heap[g]? = some (.cells cur 5 fz) ∧ fz.2 ≤ l.length * 1 ∧ l.length ≤ cap ∧ cap ≤ maxLen ∧ cur.size = cap * 1 ∧ cur.toList.take (l.length * 1) = Lib.byteCells l := by
    rcases hown.2 with ⟨_, hz⟩ | ⟨g, cap, cur, fz, hv, r⟩
    · exact absurd hz hl0
    · exact ⟨g, cap, cur, fz, hv, r⟩
  have c1 : w.drew.cell? ⟨b, 1, none⟩ = some (.slice (some ⟨g, 0, none⟩) l.length cap) := by
    have : w.drew.heap[b]? = some (.cells #[p, .slice (some ⟨g, 0, none⟩) l.length cap] T (0, 0)) := hbk
    rw [Lib.cell_of_heap this]; rfl
  have hSD : (Builtin.unsafeSliceData_ #[55] 99 #[.slice (some ⟨g, 0, none⟩) l.length cap]).run Tryz.prog w.drew = .ok (.pointer (some ⟨g, 0, none⟩)) w.drew :=
    Lib.run_unsafeSliceData_row _ _ _ _ _ _ (by omega)
  have hUS : (Builtin.unsafeString_ #[99, 3] 9 #[.pointer (some ⟨g, 0, none⟩), .int .i64 l.length]).run Tryz.prog w.drew = .ok (.string ⟨l.toArray⟩) (w.drew.freeze ⟨g, 0, none⟩ l.length) := by
    refine Lib.run_unsafeString_row w.drew 99 3 9 5 Tryz.underlying99 byteCellsOf g cur.size (by have hg' : w.drew.heap[g]? = some (.cells cur 5 fz) := hg; simp [World.shape?, hg']) l h0 (by omega) (by unfold maxLen at hcm; omega) ?_
    intro j x hx
    have := hown.cells (g := g) rfl j (.int .u8 x.toNat) (by simp [Lib.byteCells, hx])
    exact this
  have KB : Hid (Below B w (w.drew.freeze ⟨g, 0, none⟩ l.length)) := Lib.hid (Lib.below_freeze (Below.drew (Below.refl B w)) (p := ⟨g, 0, none⟩) hbg _)
  have KO : Hid (Lib.OthersKept 5 (some b) w (w.drew.freeze ⟨g, 0, none⟩ l.length)) := Lib.hid (((Lib.OthersKept.refl _ _ w).drew).freeze ⟨g, 0, none⟩ _ ⟨cur, fz, hg⟩)
  clear hown hne hbk h hg htake hcs hfz hnc hcm
  have mixed : Tryz.prog.follows Departure.mixedOrders = true := by kernel_rfl
  go_enter Tryz.func27, Tryz.ntmps27
  go_wp2
  go_region_o
  all_goals (go_wp2; go_ret; exact ⟨rfl, KB.out, KO.out⟩)
end Go.Proofs.YtelpkajlejbbgaaGreatDoor
namespace Go.Proofs.YtelpkajlejbbgaaGreatDoor
open Go.RowKit Go.Maps
theorem ne_empty {t : ByteArray} (h : t ≠ ⟨#[]⟩) : t.toList.isEmpty = false := by
  cases e : t.toList.isEmpty with
  | false => rfl
  | true =>
    exfalso
    apply h
    refine bytes_inj ?_
    rw [List.isEmpty_iff.1 e]
    decide +kernel
def DG : ByteArray := ⟨#[48, 49, 50, 51, 52, 53, 54, 55, 56, 57, 97, 98, 99, 100, 101, 102]⟩
theorem tok_nil : tokB ⟨#[]⟩ = ⟨#[45]⟩ := by decide +kernel
theorem tokP_app (a b : List UInt8) : tokP (a ++ b) = tokP a ++ tokP b := by simp [tokP]
theorem tokP_one (x : UInt8) : tokP [x] = [hexd (x.toNat / 16)] ++ [hexd (x.toNat % 16)] := rfl
theorem tokB_some {t : ByteArray} (h : t.size ≠ 0) : tokB t = ⟨(tokP t.data.toList).toArray⟩ := by
  unfold tokB tokL
  rw [if_neg]
  intro e
  have := ba_len t
  rw [e] at this
  exact h this.symm
theorem hexd_at (i : Nat) (h : i < (⟨#[48, 49, 50, 51, 52, 53, 54, 55, 56, 57, 97, 98, 99, 100, 101, 102]⟩ : ByteArray).size) : (⟨#[48, 49, 50, 51, 52, 53, 54, 55, 56, 57, 97, 98, 99, 100, 101, 102]⟩ : ByteArray)[i] = hexd i := by
  have h2 : i < 16 := h
  have all : ∀ i, (h : i < 16) → (⟨#[48, 49, 50, 51, 52, 53, 54, 55, 56, 57, 97, 98, 99, 100, 101, 102]⟩ : ByteArray)[i]'h = hexd i := by decide +kernel
  exact all i h2
set_option maxHeartbeats 400000 in
set_option maxRecDepth 100000 in
theorem token_any (t : ByteArray) (ht : t.size ≤ 1000000) (w : World) :
    Calls Tryz.prog 19 #[.string t] w fun e w' => e = .returned (.string (tokB t)) ∧ Below w.heap.size w w' := by
  by_cases hz : t = ⟨#[]⟩
  · subst hz
    rw [tok_nil]
    go_enter Tryz.func19, Tryz.ntmps19
    go_wp2
    go_ret
    exact ⟨rfl, Below.refl _ _⟩
  · have e1 : t.toList.isEmpty = false := ne_empty hz
    have hsz : t.size ≠ 0 := fun e => hz (ba_inj (List.eq_nil_of_length_eq_zero ((ba_len t).trans e)))
    rw [tokB_some hsz]
    have HT := Lib.hid ht
    have HSZ := Lib.hid hsz
    have B0 := Lib.hid (alb w (.cells #[.pointer none, .slice none 0 0] 57))
    have D0 := Lib.hid (Bd.new57 w)
    clear ht hz hsz
    go_enter Tryz.func19, Tryz.ntmps19
    go_upto_region 5 with fail
    go_loopw [9] (fun iv wr => ∃ (k : Nat), k ≤ t.size ∧ iv = .int .i64 k ∧ Hid (Bd 57 w.heap.size w.heap.size (tokP (t.data.toList.take k)) wr) ∧ Below w.heap.size w wr) (fun i _ => t.size - (intOf i).toNat)
    case atStart => exact ⟨0, by omega, rfl, Lib.hid (by rw [List.take_zero]; exact D0.out), B0.out⟩
    case round =>
      obtain ⟨k, hk, rfl, HD, hb⟩ := hrel
      by_cases h8 : k < t.size
      · have hk1 : (k : Int) < (t.size : Int) := by omega
        have hk0 : (0 : Int) ≤ (k : Int) := by omega
        obtain ⟨x, hx⟩ : ∃ x, t.data.toList[k]? = some x := ⟨_, List.getElem?_eq_getElem (by rw [ba_len]; exact h8)⟩
        have hx2 : t[k]'h8 = x := by
          have q := (List.getElem?_eq_some_iff.1 hx).2
          rw [← q]; rfl
        have hx3 := x.toNat_lt
        have W1 := Lib.hid (writeByte_any bt57 w.heap.size w.heap.size _ (hexd (x.toNat / 16)) wr HD.out (by rw [tokP_len, List.length_take]; have := HT.out; omega) hb.size)
        have HB := Lib.hid hb
        clear hb
        have WK : IntKind.i64.wrap ((k : Int) + 1) = (k : Int) + 1 := IntWalk.i64_in _ (by have := HT.out; omega)
        have HT1 := Lib.hid (show tokP (t.data.toList.take (k + 1)) = (tokP (t.data.toList.take k) ++ [hexd (x.toNat / 16)]) ++ [hexd (x.toNat % 16)] by rw [List.take_add_one, hx, tokP_app]; simp [tokP_one])
        have HL := Lib.hid (show (tokP (t.data.toList.take k) ++ [hexd (x.toNat / 16)]).length + 1 ≤ 140737488355328 by rw [List.length_append, tokP_len, List.length_take]; have := HT.out; simp; omega)
        go_wp2_with (first
          | (go_at_call 45; rw [hexd_at]; ((with_reducible refine W1.out.mono ?_); rintro e w1 ⟨rfl, d1, b1, o1⟩; have D1 := Lib.hid d1; have B1 := Lib.hid (HB.out.trans b1); clear d1 b1 o1))
          | (go_at_call 45; rw [hexd_at]; ((with_reducible refine (writeByte_any bt57 w.heap.size w.heap.size _ (hexd (x.toNat % 16)) w1 D1.out HL.out B1.out.size).mono ?_); rintro e w2 ⟨rfl, d2, b2, o2⟩; have D2 := Lib.hid d2; have B2 := Lib.hid (B1.out.trans b2); clear d2 b2 o2))
          | fail)
        exact ⟨⟨k + 1, by omega, by simp, Lib.hid (by rw [HT1.out]; exact D2.out), B2.out⟩, by simp [intOf]; omega⟩
      · have hk1 : ¬ (k : Int) < (t.size : Int) := by omega
        have hke : k = t.size := by omega
        subst hke
        have e2 : t.data.toList.take t.size = t.data.toList := List.take_of_length_le (by rw [ba_len]; omega)
        rw [e2] at HD
        have HNE := Lib.hid (show tokP t.data.toList ≠ [] by
          intro e
          have h1 := tokP_len t.data.toList
          rw [e, ba_len] at h1
          have := HSZ.out
          simp at h1; omega)
        have HB := Lib.hid hb
        clear hb e2
        go_wp2_with (first
          | (go_at_call 27; ((with_reducible refine (string_some w.heap.size w.heap.size _ wr HD.out HNE.out).mono ?_); rintro e w1 ⟨rfl, b1, o1⟩; have B1 := Lib.hid (HB.out.trans b1); clear b1 o1))
          | fail)
        go_ret
        exact ⟨rfl, B1.out⟩
theorem unP_eq (a b : UInt8) (r : List UInt8) : unP (a :: b :: r) = (match hexv a, hexv b with
    | some x, some y => (unP r).map (UInt8.ofNat (x * 16 + y) :: ·)
    | _, _ => none) := by rw [unP]; cases hexv a <;> cases hexv b <;> rfl
theorem unP_good {a b : UInt8} {r : List UInt8} {p q : Nat} (h1 : hexv a = some p) (h2 : hexv b = some q) : unP (a :: b :: r) = (unP r).map (UInt8.ofNat (p * 16 + q) :: ·) := by
  rw [unP_eq, h1, h2]
theorem unP_app : ∀ (k : Nat) (p x r : List UInt8), p.length ≤ k → unP p = some x → unP (p ++ r) = (unP r).map (x ++ ·)
  | _, [], x, r, _, h => by unfold unP at h; cases h; simp
  | _, [_], x, r, _, h => by unfold unP at h; cases h
  | 0, a :: b :: q, x, r, hk, h => by simp at hk
  | k + 1, a :: b :: q, x, r, hk, h => by
    unfold unP at h
    split at h
    · rename_i u v hu hv
      obtain ⟨y, hy, rfl⟩ := Option.map_eq_some_iff.1 h
      have ih := unP_app k q y r (by simp at hk ⊢; omega) hy
      show unP (a :: b :: (q ++ r)) = _
      rw [unP_good hu hv, ih, Option.map_map]
      rfl
    · cases h
theorem unP_bad {a b : UInt8} {r : List UInt8} (h : hexv a = none ∨ hexv b = none) : unP (a :: b :: r) = none := by
  rw [unP_eq]
  rcases h with h | h
  · rw [h]
  · rw [h]; cases hexv a <;> rfl
theorem unP_odd : ∀ (k : Nat) (l : List UInt8), l.length ≤ k → l.length % 2 = 1 → unP l = none
  | _, [], _, h => by simp at h
  | _, [_], _, h => rfl
  | 0, a :: b :: q, hk, h => by simp at hk
  | k + 1, a :: b :: q, hk, h => by
    rw [unP_eq, unP_odd k q (by simp at hk ⊢; omega) (by simp at h; omega)]
    split <;> rfl
def ixV (c : UInt8) : Int := match hexv c with
  | some n => n
  | none => -1
theorem ix_digit (c : UInt8) : Lib.indexByte DG.data.toList c = ixV c := by
  have all : ∀ n, n < 256 → Lib.indexByte DG.data.toList (UInt8.ofNat n) = ixV (UInt8.ofNat n) := by decide +kernel
  have := all c.toNat c.toNat_lt
  simpa using this
theorem ixbyte_any (c : UInt8) (w : World) : Calls Tryz.prog 43 #[.string DG, .int .u8 c.toNat] w fun e w' => e = .returned (.int .i64 (ixV c)) ∧ w' = w := by
  have g := sh_strings_IndexByte DG c.toNat w
  have e : ((c.toNat : Int).toNat).toUInt8 = c := by simp
  rw [e, ix_digit] at g
  exact g
def txtV (t : ByteArray) : Value := match txtB t with
  | some x => .tuple #[.string x, .int .i64 0]
  | none => .tuple #[.string ⟨#[]⟩, .int .i64 3]
theorem txt_minus : txtV ⟨#[45]⟩ = .tuple #[.string ⟨#[]⟩, .int .i64 0] := by
  unfold txtV
  rw [show txtB ⟨#[45]⟩ = some ⟨#[]⟩ by decide +kernel]
theorem txt_form {t : ByteArray} (h1 : t ≠ ⟨#[45]⟩) (h2 : t ≠ ⟨#[]⟩) : txtB t = (unP t.data.toList).map (fun l => ⟨l.toArray⟩) := by
  unfold txtB unL
  rw [if_neg, if_neg]
  · intro e; exact h2 (ba_inj (by rw [e]))
  · intro e; exact h1 (ba_inj (by rw [e]))
theorem eb_all (l : List UInt8) : EB.all l = l.map (fun x => Value.int .u8 x.toNat) := by
  induction l with
  | nil => rfl
  | cons x xs ih => rw [RE.all_cons, ih]; rfl
end Go.Proofs.YtelpkajlejbbgaaGreatDoor
