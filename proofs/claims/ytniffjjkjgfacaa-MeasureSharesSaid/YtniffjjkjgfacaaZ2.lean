/- nodes of the one tree. -/
import Derived.Test.YtniffjjkjgfacaaZ1
namespace Go.Proofs.Ytniffjjkjgfacaa
set_option linter.unusedSimpArgs false
open Go.RowKit Go.Maps Go.Shelf
set_option linter.unusedVariables false
attribute [local go_sem] Oper.semAt_some
theorem heap2 (w : World) (a b : Obj) : ((w.alloc a).alloc b).heap[w.heap.size]? = some a ∧ ((w.alloc a).alloc b).heap[w.heap.size + 1]? = some b := by
  refine ⟨(RE.heap_old _ _ _ (by simp)).trans (heap_alloc_new w a), ?_⟩
  have h := heap_alloc_new (w.alloc a) b
  rw [show (w.alloc a).heap.size = w.heap.size + 1 by simp] at h
  exact h
def ids : List Int := [1, 2]
def NodesPost (w : World) (e : Ending) (w' : World) : Prop := ∃ A c, e = .returned (.slice A 2 c) ∧ EI.Row w' w.heap.size A ids c ∧ Below w.heap.size w w'
/-- What lies between the rounds: the box of the slice, and its row. -/
def NdI (bs : Nat) (k : Nat) (D : Nat → Prop) (W : World) : Prop :=
  ∃ A' c', D = (fun g => g = bs ∨ RE.fp A' c' = some g) ∧ Boxed W bs 26 (.slice A' k c') ∧ EI.Row W (bs + 1) A' (ids.take k) c'
theorem ndI_loc (bs B : Nat) : LocB B (NdI bs) := by
  rintro k D W W' ⟨A', c', rfl, h1, h2⟩ hc
  exact ⟨A', c', rfl, boxed_chg h1 hc (fun h => h.1 (.inl rfl)), h2.chg hc (fun g e h => h.1 (.inr e))⟩
theorem sp_id {k : Nat} {p : SP} (h : sps[k]? = some p) : ids[k]? = some p.i := by
  match k, h with
  | 0, h => simp [sps] at h; subst h; rfl
  | 1, h => simp [sps] at h; subst h; rfl
  | k + 2, h => simp [sps] at h
set_option maxRecDepth 100000 in
set_option maxHeartbeats 4000000 in
theorem nodes1 (b kb : Nat) (w : World) (hT : TreeAt w b kb) : Calls Try.prog 27 #[TV b] w (NodesPost w) := by
  obtain ⟨V, hV⟩ : ∃ V, V = (w.alloc (.cells #[TS b] 46)).alloc (.cells #[S0] 26) := ⟨_, rfl⟩
  have HV : Hid (Below w.heap.size w V) := Lib.hid (by rw [hV]; go_grown)
  have HTW : Hid (∀ W, Below w.heap.size w W → TreeAt W b kb) := Lib.hid (fun W h => hT.later h)
  have HX : Hid (Boxed V w.heap.size 46 (TS b) ∧ Boxed V (w.heap.size + 1) 26 S0) := by
    obtain ⟨h1, h2⟩ := heap2 w (.cells #[TS b] 46 (0, 0)) (.cells #[S0] 26 (0, 0))
    rw [hV]
    exact Lib.hid ⟨h1, h2⟩
  clear hT
  subst hV
  refine (callsIn_wide (n := 4)).1 ?_
  refine callsIn_of_wp_marks Try.func27 rfl trivial ?_ rfl
  simp only [Try.ntmps27, List.size_toArray, List.length_cons, List.length_nil, Nat.reduceAdd, Nat.reduceSub, Array.replicate_succ, Array.replicate_zero, List.push_toArray, List.append_toArray, List.nil_append, List.cons_append]
  gi_wp2_with (first
    | (refine ⟨trivial, ?_⟩; gi_at_call 38; refine (callsIn_wide.2 (sound1 b kb _ (HTW.out _ HV.out))).mono ?_; rintro e w1 ⟨rfl, b1⟩; have B1H := Lib.hid (bel_trans HV.out b1); have X1 := Lib.hid (boxed_later HX.out.1 b1); have Y1H := Lib.hid (boxed_later HX.out.2 b1); have cx := X1.out.cell; clear b1)
    | (refine ⟨trivial, ?_⟩; gi_at_call 39; refine (callsIn_wide.2 (all1 b kb _ (HTW.out _ B1H.out))).mono ?_; rintro e w2 ⟨B, A, c, rfl, hB, bx, hr, b2⟩; have B2H := Lib.hid (bel_trans B1H.out b2); have Y2H := Lib.hid (boxed_later Y1H.out b2); have HR := Lib.hid hr; have BX := Lib.hid bx; have HBL := Lib.hid hB; have X2 := Lib.hid (boxed_later X1.out b2); clear b2 cx hr bx hB)
    | fail)
  have hlo : w.heap.size + 1 < w1.heap.size := Y1H.out.lt
  have hw12 : w1.heap.size ≤ w2.heap.size := HR.out.rd.elim (fun _ => Nat.le_of_lt (Nat.lt_of_le_of_lt HBL.out BX.out.lt)) (fun _ => Nat.le_of_lt (Nat.lt_of_le_of_lt HBL.out BX.out.lt))
  have hFA : ∀ a, A = some a → 0 < sps.length → w1.heap.size ≤ a.block ∧ a.block < w2.heap.size := fun a ha _ => by
    have hc : 0 < c := by have := HR.out.cap.1; simp [sps] at this; omega
    have hc' : ¬ c = 0 := by omega
    exact HR.out.fp_lt (g := a.block) (by simp [RE.fp, hc', ha])
  have HFA := Lib.hid hFA
  clear hFA
  refine range_R (gf := 46) (lb := #[.pointer (some ⟨B, 0, none⟩)]) (encs := encS) (xs := sps) rfl (enters_of Try.func46 (by kernel_rfl) rfl) (spots_seq B A 2 c sps rfl (by omega)) ⟨BX.out, HR.out.rd⟩ (fun W W' h b => ⟨boxed_later h.1 b, h.2.later b⟩) (fun g hg => ?_) (fun _ => rfl) (NdI (w.heap.size + 1)) (fun _ _ _ _ => False) (ndI_loc _ _) (fun c k D W W' h _ => h)
    (fun g => g = w.heap.size + 1) (fun g hg => ?_) ⟨none, 0, by funext g; simp [RE.fp], Y2H.out, .inl ⟨rfl, rfl⟩⟩
    (fun x U => { tmps := #[TV b, .pointer (some ⟨w.heap.size, 0, none⟩), .slice none 0 0, .pointer (some ⟨w.heap.size + 1, 0, none⟩), .int .i64 x.i, .agg #[.slice (some ⟨b, 0, none⟩) 3 3], .bool true, .agg #[TS b], .func (.func 46) #[] #[.pointer (some ⟨B, 0, none⟩)], .int .i64 x.i, .agg #[.string x.f, .string x.t], undef, undef, undef, undef, undef], defers := [] }) (fun x U => U) (fun x U => Below.refl _ _) ?_ ?_ ?_ ?_
  · rcases hg with rfl | ⟨h0, a, ha, rfl⟩
    · exact BX.out.lt
    · exact (HFA.out a ha h0).2
  · have hg' : g = w.heap.size + 1 := hg
    refine ⟨fun hf => ?_, by have := Y2H.out.lt; omega⟩
    rcases hf with h | ⟨h0, a, ha, h⟩
    · have := HBL.out; omega
    · have := (HFA.out a ha h0).1; omega
  · intro m l x U K hK
    simp only [encS]
    gi_wp2
    exact hK
  · rintro m l k p D U V o hx hl hlU rfl hinD hlD hgr hch ⟨A', c', rfl, hbx, hrow⟩
    obtain ⟨Z, hZ⟩ : ∃ Z, Z = U.putObj l o := ⟨_, rfl⟩
    try simp only at hbx hrow
    rw [← hZ] at hbx hrow
    have hkl : k < 2 := (List.getElem?_eq_some_iff.1 hx).1
    have hidk := sp_id hx
    have hkt : (ids.take k).length = k := by simp [ids, List.length_take]; omega
    have hnx : ids.take (k + 1) = ids.take k ++ [p.i] := by rw [List.take_add_one, hidk]; rfl
    have hzs : w.heap.size + 1 + 1 ≤ Z.heap.size := by have := hbx.lt; omega
    have cb := hbx.cell
    have RW := Lib.hid (hrow.later (alb Z (.cells #[.int .i64 p.i] 3)))
    have RL := Lib.hid (RE.Rd.lit (E := EI) Z 3 [p.i] #[.int .i64 p.i] rfl)
    have BX2 := Lib.hid (boxed_later hbx (alb Z (.cells #[.int .i64 p.i] 3)))
    have HKT := Lib.hid hkt
    have HNX := Lib.hid hnx
    have HZS : Hid (w.heap.size + 1 + 1 ≤ (Z.alloc (.cells #[.int .i64 p.i] 3)).heap.size) := Lib.hid (by simp; omega)
    have HK9 : Hid (k ≤ 1000000) := Lib.hid (by omega)
    clear hx hl hlU hinD hlD hgr hch hkl hkt hnx hbx hrow hzs hidk
    change (Code.block 1 _).wpIn _ _ _ _ _ (U.putObj l o)
    rw [← hZ]
    clear hZ
    gi_wp2_with (first
      | (gi_at_builtin; refine RE.wpListIn_put EI _ rfl (.tmp 11) (.tmp 13) rfl (base := w.heap.size + 1 + 1) A' k c' _ _ 1 1 [p.i] rfl rfl RW.out HKT.out HK9.out HZS.out rfl (by omega) RL.out ?_; intro A2 c2 w3 r1 r2 r3; have R1 := Lib.hid r1; have R2 := Lib.hid r2; have R3 := Lib.hid r3; have bx3 := boxed_chg BX2.out (chg_of_grown r2) (fun e => by have := (RW.out.fp_lt e).1; omega); have BX3 := Lib.hid bx3; have cb3 := bx3.cell; have fb3 := bx3.frozen; clear bx3 r1 r2 r3)
      | fail)
    have q1 := R1.out
    rw [← HNX.out] at q1
    have hlt3 := BX3.out.lt
    have hs3 := R2.out.size
    refine ⟨fun g => g = w.heap.size + 1 ∨ RE.fp A2 c2 = some g, fun g hg => ?_, ?_, A2, c2, rfl, BX3.out.set _, q1.chg (Chg.set (D := fun g => g = w.heap.size + 1) w3 _ rfl) (fun g e h => by have := (q1.fp_lt e).1; omega)⟩
    · rcases hg with e | e
      · exact .inl (.inl e)
      · rcases R3.out with h | h | h
        · rw [h] at e; cases e
        · rw [h] at e; exact .inl (.inr e)
        · have e2 := h.symm.trans e
          have := (q1.fp_lt e).2
          simp at e2
          exact .inr ⟨by omega, by simpa using this⟩
    · exact ((Chg.of_below (alb Z _)).trans (chg_of_grown R2.out) (fun g hg => .inl (.inr hg))).trans (Chg.set (D := fun g => g = w.heap.size + 1) w3 _ rfl) (fun g hg => .inl (.inl hg))
  · rintro B0 D U hB hD hgr hch ⟨A', c', rfl, hbx, hrow⟩ hK
    have hb3 : U.cell? ⟨w.heap.size + 1, 0, none⟩ = some (.slice A' 2 c') := hbx.cell
    have bU : Below w.heap.size w U := B2H.out.trans (hch.below (fun g (hg : g = _) => by omega) (by omega))
    have cP : Chg (fun g => g = B0) U (U.putObj B0 (.deferred none)) := Chg.put (D := fun g => g = B0) _ _ rfl
    have hBs : w.heap.size ≤ B0 := by omega
    have HRW : Hid (EI.Row (U.putObj B0 (.deferred none)) w.heap.size A' ids c') := Lib.hid (((show EI.Row U (w.heap.size + 1 + 1) A' ids c' from hrow).base (by omega)).chg cP (fun g e h => hD (.inr (by rw [← show g = B0 from h]; exact e))))
    have HBU : Hid (Below w.heap.size w (U.putObj B0 (.deferred none))) := Lib.hid (bU.trans (cP.below (fun g (hg : g = B0) => by omega) bU.size))
    have HKD := Lib.hid hK
    clear hgr hch hbx hrow hK bU cP hBs hD hB
    gi_wp2
    exact ⟨by simp, .inl ⟨_, _, rfl, run_takeDeferred HKD.out, .slice A' 2 c', by simp [results, Try.results27, go_sem], A', c', rfl, HRW.out, HBU.out⟩⟩
  · rintro B0 c0 k D W _ _ _ _ _ h _
    exact h.elim
end Go.Proofs.Ytniffjjkjgfacaa
