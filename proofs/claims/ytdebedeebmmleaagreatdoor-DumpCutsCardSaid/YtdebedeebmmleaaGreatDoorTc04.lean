/- Texts of the proof, one behind the other. -/
import Derived.Shelf.Strings.BuilderK
import Derived.Test.YtdebedeebmmleaaGreatDoorTc01
import Derived.Test.YtdebedeebmmleaaGreatDoorRows
import Derived.Test.YtdebedeebmmleaaGreatDoorTc03
set_option linter.unusedVariables false
set_option linter.unusedSimpArgs false
namespace Go.Proofs.YtdebedeebmmleaaGreatDoor
open Go.RowKit Go.Shelf
/-- A builder in block b, that holds these bytes (T: the block's type). -/
abbrev Bd (T : TypeId) (B b : Nat) (l : List UInt8) (w : World) : Prop := Lib.IsBuilderF T 5 B b (Lib.byteCells l) w
def BT (T : TypeId) : Prop := liesAt Tryz.prog Tryz.prog.depth T (2 / Tryz.prog.cellsOf T) 0 49 1 = true ∧ T ≠ 5
theorem bt57 : BT 49 := ⟨by kernel_rfl, by decide⟩
theorem bt59 : BT 51 := ⟨by kernel_rfl, by decide⟩
theorem Bd.bel {T : TypeId} {B b : Nat} {l : List UInt8} {w w' : World} (h : Bd T B b l w) (hb : Below w.heap.size w w') : Bd T B b l w' := by
  have one : ∀ p, Lib.BuilderAtF T 5 B b p (Lib.byteCells l) w → Lib.BuilderAtF T 5 B b p (Lib.byteCells l) w' := by
    rintro p ⟨hB, v, hh, hown, hne⟩
    have hlt : b < w.heap.size := by
      rcases Nat.lt_or_ge b w.heap.size with h' | h'
      · exact h'
      · simp [Array.getElem?_eq_none h'] at hh
    refine ⟨hB, v, (hb.block b hlt).trans hh, hown.kept (bel_grown hb none) ?_, hne⟩
    cases v.ownBlock <;> simp
  exact h.elim (fun x => .inl (one _ x)) (fun x => .inr (one _ x))
theorem Bd.new57 (w : World) : Bd 49 w.heap.size w.heap.size [] (w.alloc (.cells #[.pointer none, .slice none 0 0] 49)) := Lib.IsBuilderF.of (Lib.fresh_isBuilder 49 5 w)
theorem Bd.new59 (w : World) : Bd 51 w.heap.size w.heap.size [] (w.alloc (.cells #[.pointer none, .slice none 0 0] 51)) := Lib.IsBuilderF.of (Lib.fresh_isBuilder 51 5 w)
theorem bldInfo : (Tryz.prog.info? 49).map (·.size) = some 2 := by kernel_rfl
theorem byteInfo : (Tryz.prog.info? 5).map (fun i => (i.zero, i.size, i.bytes)) = some (some (.int .u8 0), 1, 1) := by kernel_rfl
set_option maxHeartbeats 1000000 in
set_option maxRecDepth 100000 in
theorem check_used (b : Nat) (w : World) (h0 : w.cell? ⟨b, 0, none⟩ = some (.pointer (some ⟨b, 0, none⟩))) :
    Calls Tryz.prog 65 #[.pointer (some ⟨b, 0, none⟩)] w fun e w' => e = .returned (.tuple #[]) ∧ w' = w := by
  obtain ⟨j, hj, hjs⟩ := Option.map_eq_some_iff.1 bldInfo
  go_enter Tryz.func65, Tryz.ntmps65
  go_wp2
  rw [Lib.run_neq_ptr_same w _ Tryz.underlying46 hj]
  go_wp2
  go_end0
  exact ⟨rfl, rfl⟩
set_option maxHeartbeats 1000000 in
set_option maxRecDepth 100000 in
theorem check_fresh {T : TypeId} (hT : BT T) (b : Nat) (w : World) (h0 : w.cell? ⟨b, 0, none⟩ = some (.pointer none)) (hsh : w.shape? b = some (T, 2)) (hfz : w.frozen? ⟨b, 0, none⟩ = false) :
    Calls Tryz.prog 65 #[.pointer (some ⟨b, 0, none⟩)] w fun e w' => e = .returned (.tuple #[]) ∧ w' = w.setCell ⟨b, 0, none⟩ (.pointer (some ⟨b, 0, none⟩)) := by
  obtain ⟨j, hj, hjs⟩ := Option.map_eq_some_iff.1 bldInfo
  have HT := Lib.hid hT.1
  clear hT
  go_enter Tryz.func65, Tryz.ntmps65
  go_wp2
  rw [Lib.run_to_unsafe w ⟨b, 0, none⟩ Tryz.underlying46 Tryz.underlying122 hj (by rw [hjs]; decide) hsh (Nat.zero_lt_succ 1)]
  simp only [Result.andThen]
  rw [Oper.upon_value]
  go_wp2
  rw [run_callFunc_extern Tryz.func82 (by kernel_rfl) (by kernel_rfl) (by kernel_rfl) (e := Extern.AbiNoEscape.same) (by kernel_rfl)]
  rw [Lib.run_noEscape]
  simp only [Result.andThen]
  rw [Oper.upon_value]
  go_wp2
  rw [Lib.run_from_unsafe w ⟨b, 0, none⟩ Tryz.underlying122 Tryz.underlying46 hj hsh HT.out]
  simp only [Result.andThen]
  rw [Oper.upon_value]
  go_wp2
  go_end0
  exact ⟨rfl, rfl⟩
theorem check_any {T : TypeId} (hT : BT T) (B b : Nat) (bs : List Value) (w : World) (h : Lib.IsBuilderF T 5 B b bs w) :
    Calls Tryz.prog 65 #[.pointer (some ⟨b, 0, none⟩)] w fun e w' => e = .returned (.tuple #[]) ∧ (Lib.BuilderAtF T 5 B b (.pointer (some ⟨b, 0, none⟩)) bs w' ∧ Below B w w' ∧ Lib.OthersKept 5 (some b) w w') := by
  rcases h with h | h
  · refine (check_fresh hT b w h.cell0 h.shape h.frozen0).mono ?_
    rintro e w' ⟨rfl, rfl⟩
    exact ⟨rfl, h.used _, (Below.refl B w).setCell (p := ⟨b, 0, none⟩) h.1 _, (Lib.OthersKept.refl _ _ w).setCell ⟨b, 0, none⟩ rfl _⟩
  · refine (check_used b w h.cell0).mono ?_
    rintro e w' ⟨rfl, rfl⟩
    exact ⟨rfl, h, Below.refl B _, Lib.OthersKept.refl _ _ _⟩
set_option maxHeartbeats 2000000 in
set_option maxRecDepth 100000 in
theorem writeString_any {T : TypeId} (hT : BT T) (B b : Nat) (l : List UInt8) (s : ByteArray) (w : World) (h : Bd T B b l w) (hlen : l.length + s.size ≤ 140737488355328) (hBw : B ≤ w.heap.size) :
    Calls Tryz.prog 35 #[.pointer (some ⟨b, 0, none⟩), .string s] w fun e w' => e = .returned (.tuple #[.int .i64 s.size, .nilIface]) ∧ Bd T B b (l ++ s.data.toList) w' ∧ Below B w w' ∧ Lib.OthersKept 5 (some b) w w' := by
  obtain ⟨i0, hi, hz0, hz1, hz2⟩ := info_parts byteInfo
  have HC := Lib.hid (check_any hT B b (Lib.byteCells l) w h)
  have HT5 := Lib.hid hT.2
  clear hT h
  go_enter Tryz.func35, Tryz.ntmps35
  go_wp2_with (go_at_call 65; refine HC.out.mono ?_)
  rintro e w1 ⟨rfl, h1, hb1, hk1⟩
  obtain ⟨hB, v, hbk, hown, hne⟩ := h1
  have c0 : w1.cell? ⟨b, 0, none⟩ = some (.pointer (some ⟨b, 0, none⟩)) := by rw [Lib.cell_of_heap hbk]; rfl
  have c1 : w1.cell? ⟨b, 1, none⟩ = some v := by rw [Lib.cell_of_heap hbk]; rfl
  have hll : (Lib.byteCells l).length = l.length := Lib.byteCells_length l
  have HLL := Lib.hid hll
  clear hll
  go_wp2_with (at_builtin; refine Lib.wpList_append_own_stringF _ rfl _ _ 47 9 rfl B 5 i0 Tryz.underlying47 Tryz.underlying9 hi hz0 hz1 hz2 _ _ _ rfl hown s rfl ?c3 ?c4 ?c5 ?_)
  case c3 => have := HLL.out; unfold maxLen; omega
  case c4 => have := HLL.out; omega
  case c5 => have := hb1.size; omega
  intro v' w2 hown' hgrow _
  have hlt : b < w1.heap.size := by
    rcases Nat.lt_or_ge b w1.heap.size with h' | h'
    · exact h'
    · simp [Array.getElem?_eq_none h'] at hbk
  have hb2 : w2.heap[b]? = some (.cells #[.pointer (some ⟨b, 0, none⟩), v] T (0, 0)) := by
    rw [hgrow.block b hlt (fun e => hne e.symm)]
    exact hbk
  have d0 : w2.cell? ⟨b, 0, none⟩ = some (.pointer (some ⟨b, 0, none⟩)) := by rw [Lib.cell_of_heap hb2]; rfl
  have d1 : w2.cell? ⟨b, 1, none⟩ = some v := by rw [Lib.cell_of_heap hb2]; rfl
  have f1 : w2.frozen? ⟨b, 1, none⟩ = false := Lib.frozen_of_heap hb2 1
  obtain ⟨ao, n', cap, rfl⟩ : ∃ ao n' cap, v' = .slice ao n' cap := by
    rcases hown'.2 with ⟨hv, _⟩ | ⟨g, cap, cur, fz, hv, _⟩
    · exact ⟨_, _, _, hv⟩
    · exact ⟨_, _, _, hv⟩
  go_wp2
  go_ret2
  refine ⟨rfl, ?_, ?_, (hk1.grown hgrow (Lib.ownsRowF_kind hown)).setCell ⟨b, 1, none⟩ rfl _⟩
  · refine .inr ?_
    have q := Lib.BuilderAtF.put (T := T) (e := 5) hB hb2 (bs' := Lib.byteCells l ++ Lib.strCells s) (by simpa [Lib.strCells_length] using hown') HT5.out
    rw [Lib.strCells_eq, ← Lib.byteCells_append] at q
    exact q
  · exact (hb1.grown hgrow (by have := hb1.size; omega) (fun k hk => (hown.lt k hk).1)).setCell (p := ⟨b, 1, none⟩) hB _
set_option maxHeartbeats 2000000 in
set_option maxRecDepth 100000 in
theorem writeByte_any {T : TypeId} (hT : BT T) (B b : Nat) (l : List UInt8) (c : UInt8) (w : World) (h : Bd T B b l w) (hlen : l.length + 1 ≤ 140737488355328) (hBw : B ≤ w.heap.size) :
    Calls Tryz.prog 37 #[.pointer (some ⟨b, 0, none⟩), .int .u8 c.toNat] w fun e w' => e = .returned .nilIface ∧ Bd T B b (l ++ [c]) w' ∧ Below B w w' ∧ Lib.OthersKept 5 (some b) w w' := by
  obtain ⟨i0, hi, hz0, hz1, hz2⟩ := info_parts byteInfo
  have HC := Lib.hid (check_any hT B b (Lib.byteCells l) w h)
  have HT5 := Lib.hid hT.2
  clear hT h
  go_enter Tryz.func37, Tryz.ntmps37
  go_wp2_with (go_at_call 65; refine HC.out.mono ?_)
  rintro e w1 ⟨rfl, h1, hb1, hk1⟩
  obtain ⟨hB, v, hbk, hown, hne⟩ := h1
  have c0 : w1.cell? ⟨b, 0, none⟩ = some (.pointer (some ⟨b, 0, none⟩)) := by rw [Lib.cell_of_heap hbk]; rfl
  have c1 : w1.cell? ⟨b, 1, none⟩ = some v := by rw [Lib.cell_of_heap hbk]; rfl
  have hll : (Lib.byteCells l).length = l.length := Lib.byteCells_length l
  have HLL := Lib.hid hll
  clear hll
  go_wp2_with (at_builtin; refine wpList_append_ownF _ rfl _ _ 47 rfl B 5 i0 (.int .u8 0) 1 1 Tryz.underlying47 hi hz0 hz1 hz2 rfl (by decide) _ _ _ rfl (hown.alloc _) ⟨w1.heap.size, 0, none⟩ 1 1 [.int .u8 c.toNat] rfl rfl ?c1 ?c2 ?c3 ?c4 ?c5 ?_)
  case c1 =>
    intro j u hj
    match j, hj with
    | 0, hj => simp at hj; subst hj; simp [Addr.add]
  case c2 => intro u hu; simp at hu; subst hu; rfl
  case c3 => have := HLL.out; unfold maxLen; omega
  case c4 => have := HLL.out; omega
  case c5 => have := hb1.size; simp; omega
  intro v' w2 hown' hgrow _
  have hlt : b < w1.heap.size := by
    rcases Nat.lt_or_ge b w1.heap.size with h' | h'
    · exact h'
    · simp [Array.getElem?_eq_none h'] at hbk
  have hb2 : w2.heap[b]? = some (.cells #[.pointer (some ⟨b, 0, none⟩), v] T (0, 0)) := by
    rw [hgrow.block b (by simp; omega) (fun e => hne e.symm), Lib.alloc_old w1 _ b hlt]
    exact hbk
  have d0 : w2.cell? ⟨b, 0, none⟩ = some (.pointer (some ⟨b, 0, none⟩)) := by rw [Lib.cell_of_heap hb2]; rfl
  have d1 : w2.cell? ⟨b, 1, none⟩ = some v := by rw [Lib.cell_of_heap hb2]; rfl
  have f1 : w2.frozen? ⟨b, 1, none⟩ = false := Lib.frozen_of_heap hb2 1
  obtain ⟨ao, n', cap, rfl⟩ : ∃ ao n' cap, v' = .slice ao n' cap := by
    rcases hown'.2 with ⟨hv, _⟩ | ⟨g, cap, cur, fz, hv, _⟩
    · exact ⟨_, _, _, hv⟩
    · exact ⟨_, _, _, hv⟩
  go_wp2
  go_ret
  refine ⟨rfl, ?_, ?_, ((hk1.alloc _).grown hgrow (Lib.ownsRowF_kind (hown.alloc _))).setCell ⟨b, 1, none⟩ rfl _⟩
  · refine .inr ?_
    have q := Lib.BuilderAtF.put (T := T) (e := 5) hB hb2 (bs' := Lib.byteCells l ++ [.int .u8 c.toNat]) (by simpa using hown') HT5.out
    have e : Lib.byteCells l ++ [.int .u8 c.toNat] = Lib.byteCells (l ++ [c]) := by rw [Lib.byteCells_append]; rfl
    rw [e] at q
    exact q
  · exact ((hb1.alloc (by have := hb1.size; omega) _).grown hgrow (by have := hb1.size; simp; omega) (fun k hk => (hown.lt k hk).1)).setCell (p := ⟨b, 1, none⟩) hB _
set_option maxHeartbeats 2000000 in
set_option maxRecDepth 100000 in
theorem len_any {T : TypeId} (B b : Nat) (l : List UInt8) (w : World) (h : Bd T B b l w) :
    Calls Tryz.prog 23 #[.pointer (some ⟨b, 0, none⟩)] w fun e w' => e = .returned (.int .i64 l.length) ∧ w' = w := by
  obtain ⟨p, hAt⟩ : ∃ p, Lib.BuilderAtF T 5 B b p (Lib.byteCells l) w := by
    rcases h with h | h
    · exact ⟨_, h⟩
    · exact ⟨_, h⟩
  obtain ⟨hB, v, hbk, hown, hne⟩ := hAt
  rw [Lib.byteCells_length] at hown
  obtain ⟨A, c, rfl⟩ : ∃ A c, v = .slice A l.length c := by
    rcases hown.2 with ⟨hv, hz⟩ | ⟨g, cap, cur, fz, hv, r⟩
    · exact ⟨none, 0, by rw [hv, hz]⟩
    · exact ⟨_, _, hv⟩
  have c1 : w.cell? ⟨b, 1, none⟩ = some (.slice A l.length c) := by rw [Lib.cell_of_heap hbk]; rfl
  clear hown hne hbk h
  go_enter Tryz.func23, Tryz.ntmps23
  go_wp2
  go_ret
  exact ⟨rfl, rfl⟩
theorem byteCellsOf : Tryz.prog.cellsOf 5 = 1 := by kernel_rfl
set_option maxHeartbeats 2000000 in
set_option maxRecDepth 100000 in
/-- String, of a builder that holds something. -/
theorem string_some {T : TypeId} (B b : Nat) (l : List UInt8) (w : World) (h : Bd T B b l w) (h0 : l ≠ []) :
    Calls Tryz.prog 24 #[.pointer (some ⟨b, 0, none⟩)] w fun e w' => e = .returned (.string ⟨l.toArray⟩) ∧ Below B w w' ∧ Lib.OthersKept 5 (some b) w w' := by
  obtain ⟨p, hAt⟩ : ∃ p, Lib.BuilderAtF T 5 B b p (Lib.byteCells l) w := by
    rcases h with h | h
    · exact ⟨_, h⟩
    · exact ⟨_, h⟩
  obtain ⟨hB, v, hbk, hown, hne⟩ := hAt
  have hl0 : l.length ≠ 0 := by simpa using h0
  rw [Lib.byteCells_length] at hown
  obtain ⟨g, cap, cur, fz, rfl, hbg, hg, hfz, hnc, hcm, hcs, htake⟩ : ∃ g cap cur fz, v = .slice (some ⟨g, 0, none⟩) l.length cap ∧ B ≤ g ∧ w.heap[g]? = some (.cells cur 5 fz) ∧ fz.2 ≤ l.length * 1 ∧ l.length ≤ cap ∧ cap ≤ maxLen ∧ cur.size = cap * 1 ∧ cur.toList.take (l.length * 1) = Lib.byteCells l := by
    rcases hown.2 with ⟨_, hz⟩ | ⟨g, cap, cur, fz, hv, r⟩
    · exact absurd hz hl0
    · exact ⟨g, cap, cur, fz, hv, r⟩
  have c1 : w.drew.cell? ⟨b, 1, none⟩ = some (.slice (some ⟨g, 0, none⟩) l.length cap) := by
    have : w.drew.heap[b]? = some (.cells #[p, .slice (some ⟨g, 0, none⟩) l.length cap] T (0, 0)) := hbk
    rw [Lib.cell_of_heap this]; rfl
  have hSD : (Builtin.unsafeSliceData_ #[47] 85 #[.slice (some ⟨g, 0, none⟩) l.length cap]).run Tryz.prog w.drew = .ok (.pointer (some ⟨g, 0, none⟩)) w.drew :=
    Lib.run_unsafeSliceData_row _ _ _ _ _ _ (by omega)
  have hUS : (Builtin.unsafeString_ #[85, 3] 9 #[.pointer (some ⟨g, 0, none⟩), .int .i64 l.length]).run Tryz.prog w.drew = .ok (.string ⟨l.toArray⟩) (w.drew.freeze ⟨g, 0, none⟩ l.length) := by
    refine Lib.run_unsafeString_row w.drew 85 3 9 5 Tryz.underlying85 byteCellsOf g cur.size (by have hg' : w.drew.heap[g]? = some (.cells cur 5 fz) := hg; simp [World.shape?, hg']) l h0 (by omega) (by unfold maxLen at hcm; omega) ?_
    intro j x hx
    have := hown.cells (g := g) rfl j (.int .u8 x.toNat) (by simp [Lib.byteCells, hx])
    exact this
  have KB : Hid (Below B w (w.drew.freeze ⟨g, 0, none⟩ l.length)) := Lib.hid (Lib.below_freeze (Below.drew (Below.refl B w)) (p := ⟨g, 0, none⟩) hbg _)
  have KO : Hid (Lib.OthersKept 5 (some b) w (w.drew.freeze ⟨g, 0, none⟩ l.length)) := Lib.hid (((Lib.OthersKept.refl _ _ w).drew).freeze ⟨g, 0, none⟩ _ ⟨cur, fz, hg⟩)
  clear hown hne hbk h hg htake hcs hfz hnc hcm
  have mixed : Tryz.prog.follows Departure.mixedOrders = true := by kernel_rfl
  go_enter Tryz.func24, Tryz.ntmps24
  go_wp2
  go_region_o
  all_goals (go_wp2; go_ret; exact ⟨rfl, KB.out, KO.out⟩)
end Go.Proofs.YtdebedeebmmleaaGreatDoor
namespace Go.Proofs.YtdebedeebmmleaaGreatDoor
open Go.RowKit Go.Maps
theorem ne_empty {t : ByteArray} (h : t ≠ ⟨#[]⟩) : t.toList.isEmpty = false := by
  cases e : t.toList.isEmpty with
  | false => rfl
  | true =>
    exfalso
    apply h
    refine bytes_inj ?_
    rw [List.isEmpty_iff.1 e]
    decide +kernel
def DG : ByteArray := ⟨#[48, 49, 50, 51, 52, 53, 54, 55, 56, 57, 97, 98, 99, 100, 101, 102]⟩
theorem tok_nil : tokB ⟨#[]⟩ = ⟨#[45]⟩ := by decide +kernel
theorem tokP_app (a b : List UInt8) : tokP (a ++ b) = tokP a ++ tokP b := by simp [tokP]
theorem tokP_one (x : UInt8) : tokP [x] = [hexd (x.toNat / 16)] ++ [hexd (x.toNat % 16)] := rfl
theorem tokB_some {t : ByteArray} (h : t.size ≠ 0) : tokB t = ⟨(tokP t.data.toList).toArray⟩ := by
  unfold tokB tokL
  rw [if_neg]
  intro e
  have := ba_len t
  rw [e] at this
  exact h this.symm
theorem hexd_at (i : Nat) (h : i < (⟨#[48, 49, 50, 51, 52, 53, 54, 55, 56, 57, 97, 98, 99, 100, 101, 102]⟩ : ByteArray).size) : (⟨#[48, 49, 50, 51, 52, 53, 54, 55, 56, 57, 97, 98, 99, 100, 101, 102]⟩ : ByteArray)[i] = hexd i := by
  have h2 : i < 16 := h
  have all : ∀ i, (h : i < 16) → (⟨#[48, 49, 50, 51, 52, 53, 54, 55, 56, 57, 97, 98, 99, 100, 101, 102]⟩ : ByteArray)[i]'h = hexd i := by decide +kernel
  exact all i h2
set_option maxHeartbeats 400000 in
set_option maxRecDepth 100000 in
theorem token_any (t : ByteArray) (ht : t.size ≤ 1000000) (w : World) :
    Calls Tryz.prog 39 #[.string t] w fun e w' => e = .returned (.string (tokB t)) ∧ Below w.heap.size w w' := by
  by_cases hz : t = ⟨#[]⟩
  · subst hz
    rw [tok_nil]
    go_enter Tryz.func39, Tryz.ntmps39
    go_wp2
    go_ret
    exact ⟨rfl, Below.refl _ _⟩
  · have e1 : t.toList.isEmpty = false := ne_empty hz
    have hsz : t.size ≠ 0 := fun e => hz (ba_inj (List.eq_nil_of_length_eq_zero ((ba_len t).trans e)))
    rw [tokB_some hsz]
    have HT := Lib.hid ht
    have HSZ := Lib.hid hsz
    have B0 := Lib.hid (alb w (.cells #[.pointer none, .slice none 0 0] 49))
    have D0 := Lib.hid (Bd.new57 w)
    clear ht hz hsz
    go_enter Tryz.func39, Tryz.ntmps39
    go_upto_region 5 with fail
    go_loopw [9] (fun iv wr => ∃ (k : Nat), k ≤ t.size ∧ iv = .int .i64 k ∧ Hid (Bd 49 w.heap.size w.heap.size (tokP (t.data.toList.take k)) wr) ∧ Below w.heap.size w wr) (fun i _ => t.size - (intOf i).toNat)
    case atStart => exact ⟨0, by omega, rfl, Lib.hid (by rw [List.take_zero]; exact D0.out), B0.out⟩
    case round =>
      obtain ⟨k, hk, rfl, HD, hb⟩ := hrel
      by_cases h8 : k < t.size
      · have hk1 : (k : Int) < (t.size : Int) := by omega
        have hk0 : (0 : Int) ≤ (k : Int) := by omega
        obtain ⟨x, hx⟩ : ∃ x, t.data.toList[k]? = some x := ⟨_, List.getElem?_eq_getElem (by rw [ba_len]; exact h8)⟩
        have hx2 : t[k]'h8 = x := by
          have q := (List.getElem?_eq_some_iff.1 hx).2
          rw [← q]; rfl
        have hx3 := x.toNat_lt
        have W1 := Lib.hid (writeByte_any bt57 w.heap.size w.heap.size _ (hexd (x.toNat / 16)) wr HD.out (by rw [tokP_len, List.length_take]; have := HT.out; omega) hb.size)
        have HB := Lib.hid hb
        clear hb
        have WK : IntKind.i64.wrap ((k : Int) + 1) = (k : Int) + 1 := IntWalk.i64_in _ (by have := HT.out; omega)
        have HT1 := Lib.hid (show tokP (t.data.toList.take (k + 1)) = (tokP (t.data.toList.take k) ++ [hexd (x.toNat / 16)]) ++ [hexd (x.toNat % 16)] by rw [List.take_add_one, hx, tokP_app]; simp [tokP_one])
        have HL := Lib.hid (show (tokP (t.data.toList.take k) ++ [hexd (x.toNat / 16)]).length + 1 ≤ 140737488355328 by rw [List.length_append, tokP_len, List.length_take]; have := HT.out; simp; omega)
        go_wp2_with (first
          | (go_at_call 37; rw [hexd_at]; ((with_reducible refine W1.out.mono ?_); rintro e w1 ⟨rfl, d1, b1, o1⟩; have D1 := Lib.hid d1; have B1 := Lib.hid (HB.out.trans b1); clear d1 b1 o1))
          | (go_at_call 37; rw [hexd_at]; ((with_reducible refine (writeByte_any bt57 w.heap.size w.heap.size _ (hexd (x.toNat % 16)) w1 D1.out HL.out B1.out.size).mono ?_); rintro e w2 ⟨rfl, d2, b2, o2⟩; have D2 := Lib.hid d2; have B2 := Lib.hid (B1.out.trans b2); clear d2 b2 o2))
          | fail)
        exact ⟨⟨k + 1, by omega, by simp, Lib.hid (by rw [HT1.out]; exact D2.out), B2.out⟩, by simp [intOf]; omega⟩
      · have hk1 : ¬ (k : Int) < (t.size : Int) := by omega
        have hke : k = t.size := by omega
        subst hke
        have e2 : t.data.toList.take t.size = t.data.toList := List.take_of_length_le (by rw [ba_len]; omega)
        rw [e2] at HD
        have HNE := Lib.hid (show tokP t.data.toList ≠ [] by
          intro e
          have h1 := tokP_len t.data.toList
          rw [e, ba_len] at h1
          have := HSZ.out
          simp at h1; omega)
        have HB := Lib.hid hb
        clear hb e2
        go_wp2_with (first
          | (go_at_call 24; ((with_reducible refine (string_some w.heap.size w.heap.size _ wr HD.out HNE.out).mono ?_); rintro e w1 ⟨rfl, b1, o1⟩; have B1 := Lib.hid (HB.out.trans b1); clear b1 o1))
          | fail)
        go_ret
        exact ⟨rfl, B1.out⟩
theorem unP_eq (a b : UInt8) (r : List UInt8) : unP (a :: b :: r) = (match hexv a, hexv b with
    | some x, some y => (unP r).map (UInt8.ofNat (x * 16 + y) :: ·)
    | _, _ => none) := by rw [unP]; cases hexv a <;> cases hexv b <;> rfl
theorem unP_good {a b : UInt8} {r : List UInt8} {p q : Nat} (h1 : hexv a = some p) (h2 : hexv b = some q) : unP (a :: b :: r) = (unP r).map (UInt8.ofNat (p * 16 + q) :: ·) := by
  rw [unP_eq, h1, h2]
theorem unP_app : ∀ (k : Nat) (p x r : List UInt8), p.length ≤ k → unP p = some x → unP (p ++ r) = (unP r).map (x ++ ·)
  | _, [], x, r, _, h => by unfold unP at h; cases h; simp
  | _, [_], x, r, _, h => by unfold unP at h; cases h
  | 0, a :: b :: q, x, r, hk, h => by simp at hk
  | k + 1, a :: b :: q, x, r, hk, h => by
    unfold unP at h
    split at h
    · rename_i u v hu hv
      obtain ⟨y, hy, rfl⟩ := Option.map_eq_some_iff.1 h
      have ih := unP_app k q y r (by simp at hk ⊢; omega) hy
      show unP (a :: b :: (q ++ r)) = _
      rw [unP_good hu hv, ih, Option.map_map]
      rfl
    · cases h
theorem unP_bad {a b : UInt8} {r : List UInt8} (h : hexv a = none ∨ hexv b = none) : unP (a :: b :: r) = none := by
  rw [unP_eq]
  rcases h with h | h
  · rw [h]
  · rw [h]; cases hexv a <;> rfl
theorem unP_odd : ∀ (k : Nat) (l : List UInt8), l.length ≤ k → l.length % 2 = 1 → unP l = none
  | _, [], _, h => by simp at h
  | _, [_], _, h => rfl
  | 0, a :: b :: q, hk, h => by simp at hk
  | k + 1, a :: b :: q, hk, h => by
    rw [unP_eq, unP_odd k q (by simp at hk ⊢; omega) (by simp at h; omega)]
    split <;> rfl
def ixV (c : UInt8) : Int := match hexv c with
  | some n => n
  | none => -1
theorem ix_digit (c : UInt8) : Lib.indexByte DG.data.toList c = ixV c := by
  have all : ∀ n, n < 256 → Lib.indexByte DG.data.toList (UInt8.ofNat n) = ixV (UInt8.ofNat n) := by decide +kernel
  have := all c.toNat c.toNat_lt
  simpa using this
theorem ixbyte_any (c : UInt8) (w : World) : Calls Tryz.prog 113 #[.string DG, .int .u8 c.toNat] w fun e w' => e = .returned (.int .i64 (ixV c)) ∧ w' = w := by
  have g := sh_strings_IndexByte DG c.toNat w
  have e : ((c.toNat : Int).toNat).toUInt8 = c := by simp
  rw [e, ix_digit] at g
  exact g
def txtV (t : ByteArray) : Value := match txtB t with
  | some x => .tuple #[.string x, .int .i64 0]
  | none => .tuple #[.string ⟨#[]⟩, .int .i64 3]
theorem txt_minus : txtV ⟨#[45]⟩ = .tuple #[.string ⟨#[]⟩, .int .i64 0] := by
  unfold txtV
  rw [show txtB ⟨#[45]⟩ = some ⟨#[]⟩ by decide +kernel]
theorem txt_form {t : ByteArray} (h1 : t ≠ ⟨#[45]⟩) (h2 : t ≠ ⟨#[]⟩) : txtB t = (unP t.data.toList).map (fun l => ⟨l.toArray⟩) := by
  unfold txtB unL
  rw [if_neg, if_neg]
  · intro e; exact h2 (ba_inj (by rw [e]))
  · intro e; exact h1 (ba_inj (by rw [e]))
theorem eb_all (l : List UInt8) : EB.all l = l.map (fun x => Value.int .u8 x.toNat) := by
  induction l with
  | nil => rfl
  | cons x xs ih => rw [RE.all_cons, ih]; rfl
end Go.Proofs.YtdebedeebmmleaaGreatDoor
namespace Go.Proofs.YtdebedeebmmleaaGreatDoor
open Go.RowKit Go.Maps
theorem lit_ne {t : ByteArray} {l : List UInt8} (h : t.data.toList ≠ l) : (t.toList == l) = false := by
  rw [ByteArray.toList_eq, beq_eq_false_iff_ne]; exact h
theorem ixbyte_lit (c : UInt8) (w : World) : Calls Tryz.prog 113 #[.string ⟨#[48, 49, 50, 51, 52, 53, 54, 55, 56, 57, 97, 98, 99, 100, 101, 102]⟩, .int .u8 c.toNat] w fun e w' => e = .returned (.int .i64 (ixV c)) ∧ w' = w := ixbyte_any c w
theorem ixV_some {c : UInt8} {n : Nat} (h : hexv c = some n) : ixV c = n ∧ n < 16 := by
  refine ⟨?_, (hexv_some h).1⟩
  unfold ixV; rw [h]
theorem ixV_none {c : UInt8} (h : hexv c = none) : ixV c = -1 := by unfold ixV; rw [h]
set_option maxHeartbeats 400000 in
set_option maxRecDepth 100000 in
theorem from_short (t : ByteArray) (h : t = ⟨#[45]⟩ ∨ t = ⟨#[]⟩ ∨ t.size % 2 = 1) (ht : t.size ≤ 1000000) (w : World) :
    Calls Tryz.prog 92 #[.string t] w fun e w' => e = .returned (txtV t) ∧ Below w.heap.size w w' := by
  by_cases h1 : t = ⟨#[45]⟩
  · subst h1
    rw [txt_minus]
    have e1 : ((⟨#[45]⟩ : ByteArray).toList == (⟨#[45]⟩ : ByteArray).toList) = true := bytes_eq rfl
    go_enter Tryz.func92, Tryz.ntmps92
    go_wp2
    refine bodyPost_ret (v := .tuple #[.string ⟨#[]⟩, .int .i64 0]) (by simp [results, Tryz.results92, go_sem]) rfl ⟨rfl, Below.refl _ _⟩
  · have e1 : (t.toList == [45]) = false := lit_ne (fun e => h1 (ba_inj e))
    have HV : Hid (txtV t = .tuple #[.string ⟨#[]⟩, .int .i64 3]) := Lib.hid (by
      unfold txtV
      have : txtB t = none := by
        rcases h with h | h | h
        · exact absurd h h1
        · subst h; decide +kernel
        · by_cases h2 : t = ⟨#[]⟩
          · subst h2; decide +kernel
          · rw [txt_form h1 h2, unP_odd _ _ (Nat.le_refl _) (by rw [ba_len]; exact h)]; rfl
      rw [this])
    by_cases h2 : t = ⟨#[]⟩
    · have e2 : t.toList.isEmpty = true := by subst h2; decide +kernel
      clear h h1 h2
      go_enter Tryz.func92, Tryz.ntmps92
      go_wp2
      all_goals
        refine bodyPost_ret (v := .tuple #[.string ⟨#[]⟩, .int .i64 3]) (by simp [results, Tryz.results92, go_sem]) rfl ⟨by rw [HV.out], Below.refl _ _⟩
    · have e2 : t.toList.isEmpty = false := ne_empty h2
      have e3 : (t.size : Int).tmod 2 = 1 := by
        rcases h with h | h | h
        · exact absurd h h1
        · exact absurd h h2
        · rw [Int.tmod_eq_emod_of_nonneg (by omega)]; omega
      clear h h1 h2
      go_enter Tryz.func92, Tryz.ntmps92
      go_wp2
      all_goals
        first
        | (refine bodyPost_ret (v := .tuple #[.string ⟨#[]⟩, .int .i64 3]) (by simp [results, Tryz.results92, go_sem]) rfl ⟨by rw [HV.out], Below.refl _ _⟩)
        | (exfalso; omega)
theorem or_digit : ∀ p : Nat, p < 16 → ∀ q : Nat, q < 16 → bits BinOp.or IntKind.i64 ((p : Int) * 16) (q : Int) % 256 = ((p * 16 + q : Nat) : Int) := by decide +kernel
set_option maxHeartbeats 1000000 in
set_option maxRecDepth 100000 in
theorem from_long (t : ByteArray) (h1 : t ≠ ⟨#[45]⟩) (h2 : t ≠ ⟨#[]⟩) (m : Nat) (h3 : t.size = 2 * m) (ht : t.size ≤ 1000000) (w : World) :
    Calls Tryz.prog 92 #[.string t] w fun e w' => e = .returned (txtV t) ∧ Below w.heap.size w w' := by
  have e1 : (t.toList == [45]) = false := lit_ne (fun e => h1 (ba_inj e))
  have e2 : t.toList.isEmpty = false := ne_empty h2
  have HF := Lib.hid (txt_form h1 h2)
  have e3 : (t.size : Int).tmod 2 = 0 := by rw [Int.tmod_eq_emod_of_nonneg (by omega)]; omega
  have e4 : (t.size : Int).tdiv 2 = (m : Int) := by rw [Int.tdiv_eq_ediv_of_nonneg (by omega)]; omega
  have wm : IntKind.i64.wrap (m : Int) = (m : Int) := IntWalk.i64_in _ (by omega)
  have e5 : ¬ (0 : Int) < (t.size : Int).tmod 2 := by omega
  obtain ⟨i0, hI0, hI1, hI2, hI3⟩ := EB.parts
  obtain ⟨w0, hr, hown, hg⟩ := run_make_own (P := Tryz.prog) w w.heap.size 47 5 i0 (.int .u8 0) 1 Tryz.underlying47 hI0 hI1 hI2 .i64 .i64 m (by rw [hI3]; show 1 * m ≤ _; omega) (by unfold maxLen; omega) (Nat.le_refl _)
  obtain ⟨v, hv⟩ : ∃ v, txtV t = v := ⟨_, rfl⟩
  rw [hv]
  have HV := Lib.hid hv
  have HM := Lib.hid (And.intro h3 ht)
  have HM0 : Hid (0 < m) := Lib.hid (by
    rcases Nat.eq_zero_or_pos m with h | h
    · exfalso; apply h2; refine ba_inj (List.eq_nil_of_length_eq_zero ?_); rw [ba_len]; omega
    · exact h)
  have HOWN := Lib.hid hown
  have HG := Lib.hid hg
  clear h1 h2 h3 ht hown hg hv hI0 hI1 hI2 hI3
  go_enter Tryz.func92, Tryz.ntmps92
  go_upto_region 7 with fail
  go_loopw [4, 5] (fun bv iv wr => ∃ (j k : Nat) (l : List UInt8) (A : Option Addr) (c : Nat), k = 2 * j ∧ j ≤ m ∧ iv = .int .i64 k ∧ bv = .slice A j c ∧ Hid (l.length = j) ∧ Hid (unP (t.data.toList.take k) = some l) ∧ Hid (EB.Row wr w.heap.size A l c) ∧ Below w.heap.size w wr) (fun _ iv _ => t.size - (intOf iv).toNat)
  case atStart => exact ⟨0, 0, [], _, m, rfl, by omega, rfl, rfl, Lib.hid rfl, Lib.hid rfl, Lib.hid (.inr ⟨HM0.out, HOWN.out⟩), (Below.refl _ w).grown HG.out (Nat.le_refl _) (fun j hj => by cases hj)⟩
  case round =>
    obtain ⟨j, k, l, A, c, hk, hj, rfl, rfl, HL, HP, HR, hb⟩ := hrel
    have HB := Lib.hid hb
    clear hb
    have hM := HM.out
    have HKJ := Lib.hid hk
    by_cases h8 : k < t.size
    · have h9 : k + 1 < t.size := by omega
      have hk1 : (k : Int) < (t.size : Int) := by omega
      have hk2 : (k : Int) + 1 < (t.size : Int) := by omega
      have hk0 : (0 : Int) ≤ (k : Int) := by omega
      have hk3 : (0 : Int) ≤ (k : Int) + 1 := by omega
      have WK : IntKind.i64.wrap ((k : Int) + 1) = (k : Int) + 1 := IntWalk.i64_in _ (by omega)
      have WK2 : IntKind.i64.wrap ((k : Int) + 2) = (k : Int) + 2 := IntWalk.i64_in _ (by omega)
      obtain ⟨x, hx⟩ : ∃ x, t.data.toList[k]? = some x := ⟨_, List.getElem?_eq_getElem (by rw [ba_len]; exact h8)⟩
      obtain ⟨y, hy⟩ : ∃ y, t.data.toList[k + 1]? = some y := ⟨_, List.getElem?_eq_getElem (by rw [ba_len]; exact h9)⟩
      have hx2 : t[k]'h8 = x := by
        have q := (List.getElem?_eq_some_iff.1 hx).2
        rw [← q]; rfl
      have hy2 : t[k + 1]'h9 = y := by
        have q := (List.getElem?_eq_some_iff.1 hy).2
        rw [← q]; rfl
      have ht2 : t.data.toList = t.data.toList.take k ++ x :: y :: t.data.toList.drop (k + 2) := by
        have a1 := List.take_append_drop k t.data.toList
        have a2 : t.data.toList.drop k = x :: y :: t.data.toList.drop (k + 2) := by
          obtain ⟨p1, p2⟩ := List.getElem?_eq_some_iff.1 hx
          obtain ⟨q1, q2⟩ := List.getElem?_eq_some_iff.1 hy
          rw [List.drop_eq_getElem_cons p1, p2, List.drop_eq_getElem_cons q1, q2]
        rw [← a2]; exact a1.symm
      have HT2 := Lib.hid ht2
      clear hx hy ht2 hM hk
      go_upto_region 10 with fail
      go_region_with (first
        | (go_at_call 113; ((with_reducible refine (ixbyte_lit x _).mono ?_); rintro e w1 ⟨rfl, rfl⟩))
        | (go_at_call 113; ((with_reducible refine (ixbyte_lit y _).mono ?_); rintro e w1 ⟨rfl, rfl⟩)))
      all_goals
        obtain ⟨W, hW⟩ : ∃ W, W = wr.drew := ⟨_, rfl⟩
        rw [← hW]
        have HBW : Hid (Below w.heap.size w W) := Lib.hid (by rw [hW]; exact HB.out.drew)
        have HRW : Hid (EB.Row W w.heap.size A l c) := Lib.hid (by rw [hW]; exact HR.out.later (Below.refl _ _).drew)
        clear hW
        cases hq : hexv x with
        | none =>
          have ex := ixV_none hq
          have HE : Hid (v = .tuple #[.string ⟨#[]⟩, .int .i64 3]) := Lib.hid (by
            rw [← HV.out]; unfold txtV; rw [HF.out, HT2.out, unP_app _ _ _ _ (Nat.le_refl _) HP.out, unP_bad (.inl hq)]; rfl)
          simp only [ex]
          clear hq ex
          go_wp2
          refine bodyPost_ret (v := .tuple #[.string ⟨#[]⟩, .int .i64 3]) (by simp [results, Tryz.results92, go_sem]) rfl ⟨by rw [HE.out], HBW.out⟩
        | some p =>
          obtain ⟨ex, hp⟩ := ixV_some hq
          cases hr : hexv y with
          | none =>
            have ey := ixV_none hr
            have HE : Hid (v = .tuple #[.string ⟨#[]⟩, .int .i64 3]) := Lib.hid (by
              rw [← HV.out]; unfold txtV; rw [HF.out, HT2.out, unP_app _ _ _ _ (Nat.le_refl _) HP.out, unP_bad (.inr hr)]; rfl)
            simp only [ex, ey]
            clear hq ex hr ey
            go_wp2
            refine bodyPost_ret (v := .tuple #[.string ⟨#[]⟩, .int .i64 3]) (by simp [results, Tryz.results92, go_sem]) rfl ⟨by rw [HE.out], HBW.out⟩
          | some q =>
            obtain ⟨ey, hq2⟩ := ixV_some hr
            have HG2 := Lib.hid (unP_good (r := t.data.toList.drop (k + 2)) hq hr)
            have HG3 := Lib.hid (unP_good (r := []) hq hr)
            simp only [ex, ey]
            clear hq ex hr ey
            have hp0 : ¬ (p : Int) < 0 := by omega
            have hq0 : ¬ (q : Int) < 0 := by omega
            have hor : bits BinOp.or IntKind.i64 ((p : Int) * 16) (q : Int) % 256 = ((p * 16 + q : Nat) : Int) := or_digit p hp q hq2
            have hbyte : ((UInt8.ofNat (p * 16 + q)).toNat : Int) = ((p * 16 + q : Nat) : Int) := by rw [UInt8.toNat_ofNat']; omega
            have RL := Lib.hid (RE.Rd.lit (E := EB) W 5 [UInt8.ofNat (p * 16 + q)] #[.int .u8 ((p * 16 + q : Nat) : Int)] (by show [Value.int .u8 _] = [Value.int .u8 _]; rw [hbyte]))
            have BW := Lib.hid (bel_alloc HBW.out (.cells #[.int .u8 ((p * 16 + q : Nat) : Int)] 5))
            have RW := Lib.hid (HRW.out.later (alb W (.cells #[.int .u8 ((p * 16 + q : Nat) : Int)] 5)))
            clear hbyte
            have HL2 := Lib.hid (show j ≤ 1000000 by have := HM.out; omega)
            go_wp2_with (first
              | (at_builtin; refine RE.wpList_put EB _ rfl (.tmp 43) (.tmp 49) rfl (base := w.heap.size) A j c _ _ 1 1 [UInt8.ofNat (p * 16 + q)] rfl rfl RW.out HL.out HL2.out BW.out.size rfl (by omega) RL.out ?_; intro A2 c2 w5 r1 r2 r3; have R1 := Lib.hid r1; have R2 := Lib.hid r2; clear r1 r2 r3)
              | fail)
            exact ⟨⟨j + 1, k + 2, l ++ [UInt8.ofNat (p * 16 + q)], A2, c2, by have := HKJ.out; omega, by have := HM.out; have := HKJ.out; omega, rfl, rfl, Lib.hid (by rw [List.length_append, HL.out]; rfl), Lib.hid (by
              have e : t.data.toList.take (k + 2) = t.data.toList.take k ++ [x, y] := by
                conv => lhs; rw [HT2.out]
                have hlt : (t.data.toList.take k).length = k := by rw [List.length_take, ba_len]; omega
                rw [List.take_append, hlt, List.take_of_length_le (by rw [hlt]; omega), show k + 2 - k = 2 by omega]; rfl
              rw [e, unP_app _ _ _ _ (Nat.le_refl _) HP.out, HG3.out]; rfl), R1, BW.out.trans (RE.Row.below R2.out RW.out (Nat.le_refl _) BW.out.size)⟩, by simp [intOf]; omega⟩
    · have hke : k = t.size := by omega
      have hjm : j = m := by omega
      subst hjm
      have hk1 : ¬ (k : Int) < (t.size : Int) := by omega
      have htk : t.data.toList.take k = t.data.toList := List.take_of_length_le (by rw [ba_len]; omega)
      rw [htk] at HP
      have HE : Hid (v = .tuple #[.string ⟨l.toArray⟩, .int .i64 0]) := Lib.hid (by
        rw [← HV.out]; unfold txtV; rw [HF.out, HP.out]; rfl)
      have hcv : (convert 47 9 (.slice A j c)).run Tryz.prog wr = .ok (.string ⟨l.toArray⟩) wr := by
        rcases HR.out.rd with h0 | ⟨b, off, rfl, hlt, hc⟩
        · have := EB.all_empty h0
          have h1 := HL.out
          rw [this] at h1
          have := HM0.out
          simp at h1; omega
        · have g := run_convert_bytes_back (P := Tryz.prog) wr 47 9 5 ⟨b, off, none⟩ c l Tryz.underlying47 Tryz.underlying5 Tryz.underlying9 (fun i hi => by
            have e : (⟨b, off, none⟩ : Addr).add i = ⟨b, off + i, none⟩ := by unfold Addr.add; split <;> simp_all
            rw [e]
            refine hc i _ ?_
            rw [eb_all]
            simp [hi])
          rw [HL.out] at g
          exact g
      clear hM hk htk hke
      go_wp2
      refine bodyPost_ret (v := .tuple #[.string ⟨l.toArray⟩, .int .i64 0]) (by simp [results, Tryz.results92, go_sem]) rfl ⟨by rw [HE.out], HB.out⟩
theorem from_any (t : ByteArray) (ht : t.size ≤ 1000000) (w : World) : Calls Tryz.prog 92 #[.string t] w fun e w' => e = .returned (txtV t) ∧ Below w.heap.size w w' := by
  by_cases h1 : t = ⟨#[45]⟩
  · exact from_short t (.inl h1) ht w
  · by_cases h2 : t = ⟨#[]⟩
    · exact from_short t (.inr (.inl h2)) ht w
    · by_cases h3 : t.size % 2 = 1
      · exact from_short t (.inr (.inr h3)) ht w
      · exact from_long t h1 h2 (t.size / 2) (by omega) ht w
end Go.Proofs.YtdebedeebmmleaaGreatDoor
