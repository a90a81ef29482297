/- Texts of the proof, one behind the other. -/
import Derived.Test.YtilnpeekajnlhaaGreatTh01
import Derived.Lib.Hide
import Derived.Deep.RegionHeld3
import Derived.RegionTactic
import Derived.Maps.OwnSet
import Derived.Maps.Views
import Derived.Test.YtilnpeekajnlhaaGreatRows
import Derived.WalkKit
import Derived.ProofKit
import Derived.OpenShut
import Derived.ShutString
import Derived.ChangeOld
import Derived.ChangeSame
import Derived.Below
import Derived.Lib.SmallJoins
import Derived.SizedLaws
import Derived.Deep.Slices
import Derived.Deep.Strs
import Derived.OrdersHeld
import Derived.KernelRfl
set_option linter.unusedVariables false
set_option linter.unusedSimpArgs false
namespace Go.Proofs.YtilnpeekajnlhaaGreat
open Go.RowKit

def withinB (a0 a1 b0 b1 : ByteArray) : Bool := (meetF a0 a1 b0 b1).2.2 && ((meetF a0 a1 b0 b1).1.toList == a0.toList && (meetF a0 a1 b0 b1).2.1.toList == a1.toList)

set_option maxHeartbeats 1000000 in
theorem within_any (a0 a1 b0 b1 : ByteArray) (w : World) :
    Calls Tryz.prog 65 #[.agg #[.string a0, .string a1], .agg #[.string b0, .string b1]] w fun e w' => e = .returned (.bool (withinB a0 a1 b0 b1)) ∧ Below w.heap.size w w' := by
  obtain ⟨m0, m1, ok, hm⟩ : ∃ m0 m1 ok, meetF a0 a1 b0 b1 = (m0, m1, ok) := ⟨_, _, _, rfl⟩
  have hw : withinB a0 a1 b0 b1 = (ok && (m0.toList == a0.toList && m1.toList == a1.toList)) := by simp [withinB, hm]
  rw [hw]
  have C := meet_any a0 a1 b0 b1
  rw [hm] at C
  clear hw hm
  have C' := Lib.hid C
  clear C
  cases ok
  all_goals
    go_enter Tryz.func65, Tryz.ntmps65
    go_wp2_with fail
    refine (C'.out _).mono ?_
    rintro e w1 ⟨rfl, hb⟩
    have c0 := cell_later (a := ⟨w.heap.size, 0, none⟩) (v := .string a0) hb (by simp [go_sem])
    have c1 := cell_later (a := ⟨w.heap.size, 1, none⟩) (v := .string a1) hb (by simp [go_sem])
    have hz : w.heap.size < w1.heap.size := by have := hb.size; simp at this; omega
    have hB : Below w.heap.size w w1 := (((Below.refl _ _).alloc (Nat.le_refl _) _).alloc (by simp) _).trans (hb.mono (by simp; omega))
    clear hb
    go_wp2_with fail
    all_goals
      go_ret
      refine ⟨?_, by first | exact hB | exact hB.alloc hB.size _⟩
      simp_all
set_option maxHeartbeats 1000000 in
theorem rwithin_any (a0 a1 b0 b1 : ByteArray) (w : World) :
    Calls Tryz.prog 43 #[.agg #[.string a0, .string a1], .agg #[.string b0, .string b1]] w fun e w' => e = .returned (.bool (sb a0 a1 && (sb b0 b1 && (!lt a0 b0 && !bef b1 a1)))) ∧ Below w.heap.size w w' := by
  unfold lt
  cases h1 : sb a0 a1
  · go_enter Tryz.func43, Tryz.ntmps43
    go_wp2_with (first | (go_at_call 28; refine (rright_at _ _ _).mono ?_; rintro e w' ⟨rfl, rfl⟩) | (go_at_call 74; refine (rbefore_any _ _ _).mono ?_; rintro e w' ⟨rfl, rfl⟩))
    go_ret
    exact ⟨by simp, (((Below.refl _ _).alloc (Nat.le_refl _) _).alloc (by simp; try omega) _).alloc (by simp; try omega) _⟩
  · cases h2 : sb b0 b1
    · go_enter Tryz.func43, Tryz.ntmps43
      go_wp2_with (first | (go_at_call 28; refine (rright_at _ _ _).mono ?_; rintro e w' ⟨rfl, rfl⟩) | (go_at_call 74; refine (rbefore_any _ _ _).mono ?_; rintro e w' ⟨rfl, rfl⟩))
      go_ret
      exact ⟨by simp, ((((Below.refl _ _).alloc (Nat.le_refl _) _).alloc (by simp; try omega) _).alloc (by simp; try omega) _).alloc (by simp; try omega) _⟩
    · cases h3 : Op.bytesLess a0.toList b0.toList
      all_goals
        go_enter Tryz.func43, Tryz.ntmps43
        go_wp2_with (first | (go_at_call 28; refine (rright_at _ _ _).mono ?_; rintro e w' ⟨rfl, rfl⟩) | (go_at_call 74; refine (rbefore_any _ _ _).mono ?_; rintro e w' ⟨rfl, rfl⟩))
        all_goals
          go_ret
          exact ⟨by simp, ((((Below.refl _ _).alloc (Nat.le_refl _) _).alloc (by simp; try omega) _).alloc (by simp; try omega) _).alloc (by simp; try omega) _⟩

end Go.Proofs.YtilnpeekajnlhaaGreat
namespace Go.Proofs.YtilnpeekajnlhaaGreat
open Go.RowKit

theorem meetF_E (a0 a1 b0 b1 : ByteArray) (h1 : sb a0 a1 = true) (h2 : sb b0 b1 = true) : meetF a0 a1 b0 b1 = meetE a0 a1 b0 b1 := by
  unfold meetF
  rw [if_pos ⟨h1, h2⟩]
  split
  · rename_i h
    have e1 : maxS a0 b0 = a0 := by unfold maxS lt; rw [h.1, bl_irr]; rfl
    have e2 : firstS a1 b1 = a1 := by
      unfold firstS bef emp lt; rw [h.2, bl_irr]; cases b1.toList.isEmpty <;> rfl
    unfold meetE; rw [e1, e2, h1]; rfl
  · rfl
set_option maxHeartbeats 2000000 in
theorem rmeet_any (a0 a1 b0 b1 : ByteArray) (w : World) :
    Calls Tryz.prog 42 #[.agg #[.string a0, .string a1], .agg #[.string b0, .string b1]] w fun e w' => e = .returned (mv (meetF a0 a1 b0 b1)) ∧ Below w.heap.size w w' := by
  cases h1 : sb a0 a1
  · have e : meetF a0 a1 b0 b1 = (emptyS, emptyS, false) := by unfold meetF; rw [if_neg (by simp [h1])]
    rw [e]; clear e
    go_enter Tryz.func42, Tryz.ntmps42
    go_wp2_with (first | (go_at_call 28; refine (rright_at _ _ _).mono ?_; rintro e w' ⟨rfl, rfl⟩) | (go_at_call 74; refine (rbefore_any _ _ _).mono ?_; rintro e w' ⟨rfl, rfl⟩))
    refine bodyPost_ret (v := mv (emptyS, emptyS, false)) (by simp [results, Tryz.results42, go_sem]) rfl ⟨rfl, ((((Below.refl _ _).alloc (Nat.le_refl _) _).alloc (by simp; try omega) _).alloc (by simp; try omega) _).alloc (by simp; try omega) _⟩
  · cases h2 : sb b0 b1
    · have e : meetF a0 a1 b0 b1 = (emptyS, emptyS, false) := by unfold meetF; rw [if_neg (by simp [h2])]
      rw [e]; clear e
      go_enter Tryz.func42, Tryz.ntmps42
      go_wp2_with (first | (go_at_call 28; refine (rright_at _ _ _).mono ?_; rintro e w' ⟨rfl, rfl⟩) | (go_at_call 74; refine (rbefore_any _ _ _).mono ?_; rintro e w' ⟨rfl, rfl⟩))
      refine bodyPost_ret (v := mv (emptyS, emptyS, false)) (by simp [results, Tryz.results42, go_sem]) rfl ⟨rfl, (((((Below.refl _ _).alloc (Nat.le_refl _) _).alloc (by simp; try omega) _).alloc (by simp; try omega) _).alloc (by simp; try omega) _).alloc (by simp; try omega) _⟩
    · rw [meetF_E a0 a1 b0 b1 h1 h2]
      have hf : ∃ k1 k2 k3 : Bool, Op.bytesLess b0.toList a0.toList = k1 ∧ (b0.toList == a0.toList) = k2 ∧ lt a0 b0 = k3 ∧ (k1 || k2) = !k3 := by
        refine ⟨_, _, _, rfl, rfl, rfl, ?_⟩
        exact bl_le _ _
      obtain ⟨k1, k2, k3, g1, g2, g3, g4⟩ := hf
      cases h4 : bef b1 a1
      all_goals
        cases k3
        all_goals
          have em : maxS a0 b0 = if lt a0 b0 then b0 else a0 := rfl
          have ef : firstS a1 b1 = if bef b1 a1 then b1 else a1 := rfl
          rw [g3] at em
          rw [h4] at ef
          simp only [if_true, Bool.false_eq_true, if_false] at em ef
          have ee : ∀ r : Bool, sb (maxS a0 b0) (firstS a1 b1) = r → meetE a0 a1 b0 b1 = if r = true then (maxS a0 b0, firstS a1 b1, true) else (emptyS, emptyS, false) := fun r h => by unfold meetE; rw [h]
          rw [em, ef] at ee
          cases h5 : sb (maxS a0 b0) (firstS a1 b1)
          all_goals
            rw [em, ef] at h5
            have e := ee _ h5
            simp only [if_true, Bool.false_eq_true, if_false] at e
            rw [e]
            clear ee e em ef g3
            cases k1 <;> cases k2 <;> simp at g4
            all_goals first | (exfalso; rw [h1] at h5; cases h5; done) | (exfalso; rw [h2] at h5; cases h5; done) | skip
            all_goals
              go_enter Tryz.func42, Tryz.ntmps42
              go_wp2_with (first | (go_at_call 28; refine (rright_at _ _ _).mono ?_; rintro e w' ⟨rfl, rfl⟩) | (go_at_call 74; refine (rbefore_any _ _ _).mono ?_; rintro e w' ⟨rfl, rfl⟩))
              refine bodyPost_ret (v := mv (_, _, _)) (by simp [results, Tryz.results42, go_sem]) rfl ⟨rfl, (((((((Below.refl _ _).alloc (Nat.le_refl _) _).alloc (by simp; try omega) _).alloc (by simp; try omega) _).alloc (by simp; try omega) _).alloc (by simp; try omega) _).alloc (by simp; try omega) _).alloc (by simp; try omega) _⟩

end Go.Proofs.YtilnpeekajnlhaaGreat
namespace Go.Proofs.YtilnpeekajnlhaaGreat
open Go.RowKit

abbrev sv (a b c d : ByteArray) (ok : Bool) : Value := .tuple #[.agg #[.string a, .string b], .agg #[.string c, .string d], .bool ok]
theorem le_facts (a b : ByteArray) (h : lt a b = false) : (Op.bytesLess b.toList a.toList = true ∧ (b.toList == a.toList) = false) ∨ (Op.bytesLess b.toList a.toList = false ∧ (b.toList == a.toList) = true) := by
  unfold lt at h
  rcases bl_tri a.toList b.toList with k | k | k
  · rw [h] at k; cases k
  · right; rw [k]; exact ⟨bl_irr _, by simp⟩
  · left; exact ⟨k, by rw [beq_eq_false_iff_ne]; intro e; rw [e, bl_irr] at k; cases k⟩
theorem gt_facts (a b : ByteArray) (h : lt a b = true) : Op.bytesLess b.toList a.toList = false ∧ (b.toList == a.toList) = false := by
  unfold lt at h
  exact ⟨bl_asymm _ _ h, by rw [beq_eq_false_iff_ne]; intro e; rw [e, bl_irr] at h; cases h⟩

theorem sb_facts (s t : ByteArray) (h : sb s t = true) : (t.toList.isEmpty = true) ∨ (t.toList.isEmpty = false ∧ Op.bytesLess s.toList t.toList = true) := by
  unfold sb emp lt at h
  cases k : t.toList.isEmpty
  · right; exact ⟨rfl, by simpa [k] using h⟩
  · left; rfl
theorem sb_nfacts (s t : ByteArray) (h : sb s t = false) : t.toList.isEmpty = false ∧ Op.bytesLess s.toList t.toList = false := by
  unfold sb emp lt at h
  simpa using h

end Go.Proofs.YtilnpeekajnlhaaGreat
namespace Go.Proofs.YtilnpeekajnlhaaGreat
open Go.RowKit

theorem toList_eq (a : ByteArray) : a.toList = a.data.toList := by
  exact ByteArray.toList_eq a
theorem bef_asymm (a b : ByteArray) (h : bef a b = true) : bef b a = false := by
  unfold bef emp lt at *
  cases ha : a.toList.isEmpty <;> cases hb : b.toList.isEmpty <;> simp_all
  exact bl_asymm _ _ h
theorem no_between : ∀ x y : List UInt8, Op.bytesLess x y = true → Op.bytesLess y (x ++ [0]) = false
  | _, [] => by simp [bl_nil]
  | [], b :: y => by
    intro _
    simp [Op.bytesLess, bl_nil, UInt8.lt_iff_toNat_lt]
  | a :: x, b :: y => by
    intro h
    simp only [Op.bytesLess, Bool.or_eq_true, decide_eq_true_eq, Bool.and_eq_true, beq_iff_eq, UInt8.lt_iff_toNat_lt] at h
    simp only [List.cons_append, Op.bytesLess]
    rcases h with h | ⟨rfl, h⟩
    · have h1 : ¬ b < a := by rw [UInt8.lt_iff_toNat_lt]; omega
      have h2 : (b == a) = false := by rw [beq_eq_false_iff_ne]; intro e; subst e; omega
      simp [h1, h2]
    · simp [no_between x y h, UInt8.lt_iff_toNat_lt]
theorem snoc_list (a : ByteArray) : (a ++ (⟨#[0]⟩ : ByteArray)).toList = a.toList ++ [0] := by
  rw [toList_eq, toList_eq]; simp
end Go.Proofs.YtilnpeekajnlhaaGreat
namespace Go.Proofs.YtilnpeekajnlhaaGreat
open Go.RowKit

theorem lt_irr (a : ByteArray) : lt a a = false := bl_irr _
theorem not_lt_max (a b s : ByteArray) : (!lt s (maxS a b)) = (!lt s a && !lt s b) := by
  unfold maxS
  cases h : lt a b
  · simp only [Bool.false_eq_true, if_false]
    cases k : lt s a
    · have : lt s b = false := by
        cases k2 : lt s b with
        | false => rfl
        | true =>
          exfalso
          rcases bl_tri a.toList b.toList with x | x | x
          · unfold lt at h; rw [h] at x; cases x
          · unfold lt at k k2; rw [x, k2] at k; cases k
          · have := bl_trans _ _ _ k2 x; unfold lt at k; rw [k] at this; cases this
      simp [this]
    · simp
  · simp only [if_true]
    cases k : lt s b
    · have : lt s a = false := by
        cases k2 : lt s a with
        | false => rfl
        | true => exfalso; have := bl_trans _ _ _ k2 h; unfold lt at k; rw [k] at this; cases this
      simp [this]
    · simp
theorem sb_first (a b s : ByteArray) : sb s (firstS a b) = (sb s a && sb s b) := by
  unfold firstS
  cases h : bef b a
  · simp only [Bool.false_eq_true, if_false]
    unfold bef sb emp lt at *
    cases ea : a.toList.isEmpty <;> cases eb : b.toList.isEmpty <;> simp_all
    intro k
    rcases bl_tri a.toList b.toList with x | x | x
    · exact bl_trans _ _ _ k x
    · rw [← x]; exact k
    · rw [h] at x; cases x
  · simp only [if_true]
    unfold bef sb emp lt at *
    cases ea : a.toList.isEmpty <;> cases eb : b.toList.isEmpty <;> simp_all
    intro k
    exact bl_trans _ _ _ k h
theorem has_none (f t s : ByteArray) (h : sb f t = false) : has f t s = false := by
  unfold sb emp lt at h
  unfold has sb emp lt
  simp only [Bool.or_eq_false_iff] at h
  obtain ⟨h1, h2⟩ := h
  cases k : Op.bytesLess s.toList f.toList
  · cases k2 : Op.bytesLess s.toList t.toList
    · simp [h1]
    · exfalso
      rcases bl_tri s.toList f.toList with x | x | x
      · rw [k] at x; cases x
      · rw [x, h2] at k2; cases k2
      · have := bl_trans _ _ _ x k2; rw [h2] at this; cases this
  · simp
theorem has_meetE (a0 a1 b0 b1 s : ByteArray) : (has a0 a1 s && has b0 b1 s) = ((meetE a0 a1 b0 b1).2.2 && has (meetE a0 a1 b0 b1).1 (meetE a0 a1 b0 b1).2.1 s) := by
  have e : (has a0 a1 s && has b0 b1 s) = has (maxS a0 b0) (firstS a1 b1) s := by
    unfold has; rw [not_lt_max, sb_first]
    cases lt s a0 <;> cases lt s b0 <;> cases sb s a1 <;> cases sb s b1 <;> rfl
  rw [e]
  unfold meetE
  cases h : sb (maxS a0 b0) (firstS a1 b1)
  · simp [has_none _ _ s h]
  · simp
theorem has_list (a0 a1 b0 b1 s : ByteArray) (h : a0.toList = b0.toList) (k : a1.toList = b1.toList) : has a0 a1 s = has b0 b1 s := by
  unfold has sb emp lt; rw [h, k]
theorem has_meet (a0 a1 b0 b1 s : ByteArray) (h1 : sb a0 a1 = true) (h2 : sb b0 b1 = true) : (has a0 a1 s && has b0 b1 s) = ((meetF a0 a1 b0 b1).2.2 && has (meetF a0 a1 b0 b1).1 (meetF a0 a1 b0 b1).2.1 s) := by
  unfold meetF
  rw [if_pos ⟨h1, h2⟩]
  by_cases h : a0.toList = b0.toList ∧ a1.toList = b1.toList
  · rw [if_pos h, ← has_list a0 a1 b0 b1 s h.1 h.2]; simp
  · rw [if_neg h]; exact has_meetE a0 a1 b0 b1 s
end Go.Proofs.YtilnpeekajnlhaaGreat
namespace Go.Proofs.YtilnpeekajnlhaaGreat
open Go.RowKit Go.Maps
theorem alb (w : World) (o : Obj) : Below w.heap.size w (w.alloc o) := by go_grown
theorem keep_bel {w w' : World} {x : Nat} {o : Obj} (h : Below w.heap.size w w') (ho : w.heap[x]? = some o) : w'.heap[x]? = some o :=
  (h.block x (by
    rcases Nat.lt_or_ge x w.heap.size with h' | h'
    · exact h'
    · simp [Array.getElem?_eq_none h'] at ho)).trans ho
/-- A message. -/
structure MG where
  kd : Int
  sq : Int
  ky : ByteArray
  to : ByteArray
  vl : ByteArray
  dl : Int
/-- It is of a machine's size. -/
def MG.Ok (m : MG) : Prop := m.ky.size ≤ 140737488355328 ∧ m.to.size ≤ 140737488355328 ∧ m.vl.size ≤ 140737488355328
def EG : RE MG where
  st := 25
  et := 50
  k := 6
  by_ := 72
  z := .agg #[.int .u8 0, .int .i64 0, .string ⟨#[]⟩, .string ⟨#[]⟩, .string ⟨#[]⟩, .int .u64 0]
  cs := fun x => [.int .u8 x.kd, .int .i64 x.sq, .string x.ky, .string x.to, .string x.vl, .int .u64 x.dl]
  kpos := by omega
  len := fun _ => rfl
  one := fun x u hu => by simp at hu; rcases hu with rfl | rfl | rfl | rfl | rfl | rfl <;> rfl
  und := Tryz.underlying25
  info := by kernel_rfl
  zk := rfl
  bmax := by omega
abbrev MV (m : MG) : Value := .agg #[.int .u8 m.kd, .int .i64 m.sq, .string m.ky, .string m.to, .string m.vl, .int .u64 m.dl]
abbrev MO (m : MG) : Obj := .cells #[.int .u8 m.kd, .int .i64 m.sq, .string m.ky, .string m.to, .string m.vl, .int .u64 m.dl] 50 (0, 0)
theorem cells6 {W : World} {g : Nat} {a b c d e f : Value} {t : TypeId} (z : W.heap[g]? = some (.cells #[a, b, c, d, e, f] t (0, 0))) :
    W.cell? ⟨g, 0, none⟩ = some a ∧ W.cell? ⟨g, 1, none⟩ = some b ∧ W.cell? ⟨g, 2, none⟩ = some c ∧ W.cell? ⟨g, 3, none⟩ = some d ∧ W.cell? ⟨g, 4, none⟩ = some e ∧ W.cell? ⟨g, 5, none⟩ = some f := by
  refine ⟨?_, ?_, ?_, ?_, ?_, ?_⟩ <;> simp [World.cell?, z]
theorem eg_at {w : World} {A : Option Addr} {xs : List MG} (h : EG.Rd w A xs) {i : Nat} {x : MG} (hi : xs[i]? = some x) : ∃ b off, A = some ⟨b, off, none⟩ ∧ b < w.heap.size ∧ w.cell? ⟨b, off + i * 6, none⟩ = some (.int .u8 x.kd) ∧ w.cell? ⟨b, off + i * 6 + 1, none⟩ = some (.int .i64 x.sq) ∧ w.cell? ⟨b, off + i * 6 + 2, none⟩ = some (.string x.ky) ∧ w.cell? ⟨b, off + i * 6 + 3, none⟩ = some (.string x.to) ∧ w.cell? ⟨b, off + i * 6 + 4, none⟩ = some (.string x.vl) ∧ w.cell? ⟨b, off + i * 6 + 5, none⟩ = some (.int .u64 x.dl) := by
  obtain ⟨b, off, e, h1, h2⟩ := h.get hi
  exact ⟨b, off, e, h1, by simpa [EG] using h2 0 _ rfl, by simpa [EG] using h2 1 _ rfl, by simpa [EG] using h2 2 _ rfl, by simpa [EG] using h2 3 _ rfl, by simpa [EG] using h2 4 _ rfl, by simpa [EG] using h2 5 _ rfl⟩
end Go.Proofs.YtilnpeekajnlhaaGreat
namespace Go.Proofs.YtilnpeekajnlhaaGreat
open Go.RowKit Go.Maps
structure Chg (D : Nat → Prop) (w w' : World) : Prop where
  os : w'.os = w.os
  tape : w'.tape = w.tape
  output : w'.output = w.output
  size : w.heap.size ≤ w'.heap.size
  block : ∀ g, g < w.heap.size → ¬ D g → w'.heap[g]? = w.heap[g]?
theorem Chg.refl (D : Nat → Prop) (w : World) : Chg D w w := ⟨rfl, rfl, rfl, Nat.le_refl _, fun _ _ _ => rfl⟩
theorem Chg.of_below {D : Nat → Prop} {w w' : World} (h : Below w.heap.size w w') : Chg D w w' := ⟨h.os, h.tape, h.output, h.size, fun g hg _ => h.block g hg⟩
theorem Chg.trans {F G : Nat → Prop} {w w1 w2 : World} (h : Chg F w w1) (k : Chg G w1 w2) (hG : ∀ g, G g → F g ∨ w.heap.size ≤ g) : Chg F w w2 :=
  ⟨k.os.trans h.os, k.tape.trans h.tape, k.output.trans h.output, Nat.le_trans h.size k.size, fun g hg hn => (k.block g (Nat.lt_of_lt_of_le hg h.size) (fun e => by rcases hG g e with x | x; exact hn x; omega)).trans (h.block g hg hn)⟩
theorem Chg.more {F G : Nat → Prop} {w w' : World} (h : Chg F w w') (hG : ∀ g, F g → G g ∨ w.heap.size ≤ g) : Chg G w w' := ⟨h.os, h.tape, h.output, h.size, fun g hg hn => h.block g hg (fun e => by rcases hG g e with x | x; exact hn x; omega)⟩
theorem Chg.below {F : Nat → Prop} {w w' : World} {lo : Nat} (h : Chg F w w') (hF : ∀ g, F g → lo ≤ g) (hlo : lo ≤ w.heap.size) : Below lo w w' :=
  ⟨h.os, h.tape, h.output, h.size, fun g hg => h.block g (by omega) (fun e => by have := hF g e; omega)⟩
theorem Chg.set {D : Nat → Prop} (w : World) {l o : Nat} (v : Value) (hl : D l) : Chg D w (w.setCell ⟨l, o, none⟩ v) :=
  ⟨rfl, rfl, rfl, by simp, fun g hg hn => by
    have : l ≠ g := fun e => hn (e ▸ hl)
    simp [World.setCell, Array.getElem?_modify, this]⟩
theorem keep_chg {E : Nat → Prop} {w w' : World} {x : Nat} {o : Obj} (hc : Chg E w w') (ho : w.heap[x]? = some o) (hx : ¬ E x) : w'.heap[x]? = some o :=
  (hc.block x (by
    rcases Nat.lt_or_ge x w.heap.size with h' | h'
    · exact h'
    · simp [Array.getElem?_eq_none h'] at ho) hx).trans ho

theorem chg_of_grown {w w' : World} {row : Option Nat} (h : w.grownBy w' row) : Chg (fun g => row = some g) w w' := ⟨h.os, h.tape, h.output, h.size, fun g hg hn => h.block g hg (fun e => hn e.symm)⟩
end Go.Proofs.YtilnpeekajnlhaaGreat
namespace Go.Proofs.YtilnpeekajnlhaaGreat
open Go.RowKit Go.Maps
abbrev zS : ByteArray := ⟨#[0]⟩
def isPt (k : Int) : Bool := k == 1 || k == 2 || k == 3
def spF (m : MG) : ByteArray := if isPt m.kd then m.ky else if m.kd == 4 then m.ky else emptyS
def spT (m : MG) : ByteArray := if isPt m.kd then m.ky ++ zS else if m.kd == 4 then m.to else emptyS
def touB (m : MG) (s : ByteArray) : Bool := if isPt m.kd then m.ky.toList == s.toList else (m.kd == 4 && has m.ky m.to s)
def szN (m : MG) : Int := 16 + (m.ky.size : Int) + m.to.size + m.vl.size
abbrev SV (m : MG) : Value := .agg #[.string (spF m), .string (spT m)]
set_option maxHeartbeats 1000000 in
theorem isp_any (m : MG) (w : World) :
    Calls Tryz.prog 60 #[MV m] w fun r w' => r = .returned (.bool (isPt m.kd)) ∧ Below w.heap.size w w' := by
  have HB := Lib.hid (alb w (MO m))
  have h2 := (cells6 (heap_alloc_new w (MO m))).1
  go_enter Tryz.func60, Tryz.ntmps60
  cases e1 : m.kd == 1 <;> cases e2 : m.kd == 2 <;> cases e3 : m.kd == 3 <;>
  · go_wp2
    all_goals
      go_ret
      refine ⟨?_, HB.out⟩
      simp [isPt, e1, e2, e3]
set_option maxHeartbeats 1000000 in
theorem rpt_any (m : MG) (w : World) :
    Calls Tryz.prog 73 #[MV m] w fun r w' => r = .returned (.bool (isPt m.kd)) ∧ Below w.heap.size w w' := by
  have HB := Lib.hid (alb w (MO m))
  have h2 := (cells6 (heap_alloc_new w (MO m))).1
  go_enter Tryz.func73, Tryz.ntmps73
  by_cases e1 : (1 : Int) ≤ m.kd <;> by_cases e2 : m.kd ≤ 3
  all_goals first
    | (exfalso; omega)
    | go_wp2
  all_goals
      go_ret
      refine ⟨?_, HB.out⟩
      simp only [isPt]
      first
        | rfl
        | (congr 2; rw [Bool.eq_iff_iff]; simp; omega)
        | (simp; omega)
set_option maxHeartbeats 1000000 in
theorem size_any (m : MG) (ho : m.Ok) (w : World) :
    Calls Tryz.prog 96 #[MV m] w fun r w' => r = .returned (.int .i64 (szN m)) ∧ Below w.heap.size w w' := by
  have HB := Lib.hid (alb w (MO m))
  obtain ⟨_, _, h2, h3, h4, _⟩ := cells6 (heap_alloc_new w (MO m))
  obtain ⟨o1, o2, o3⟩ := ho
  go_enter Tryz.func96, Tryz.ntmps96
  go_wp2
  all_goals
    go_ret
    refine ⟨?_, HB.out⟩
    simp only [szN]
    try rfl
theorem has_two {W : World} {g : Nat} {a b : Value} {t : TypeId} (z : W.heap[g]? = some (.cells #[a, b] t (0, 0))) :
    W.cell? ⟨g, 0, none⟩ = some a ∧ W.cell? ⟨g, 1, none⟩ = some b ∧ W.frozen? ⟨g, 0, none⟩ = false ∧ W.frozen? ⟨g, 1, none⟩ = false := by
  refine ⟨?_, ?_, ?_, ?_⟩ <;> simp [World.cell?, World.frozen?, z]
theorem two_new (w : World) (a b : Obj) : ((w.alloc a).alloc b).heap[w.heap.size]? = some a ∧ ((w.alloc a).alloc b).heap[w.heap.size + 1]? = some b :=
  ⟨keep_bel (alb (w.alloc a) b) (heap_alloc_new w a), by have := heap_alloc_new (w.alloc a) b; simpa using this⟩
set_option maxHeartbeats 1000000 in
theorem span_any (m : MG) (ho : m.Ok) (w : World) :
    Calls Tryz.prog 59 #[MV m] w fun r w' => r = .returned (SV m) ∧ Below w.heap.size w w' := by
  obtain ⟨o1, _, _⟩ := ho
  have O1 := Lib.hid (show m.ky.size + 1 ≤ 9223372036854775807 by omega)
  clear o1
  have H0 := Lib.hid (bel_alloc (alb w (MO m)) (rgc emptyS emptyS))
  have z1 := Lib.hid (two_new w (MO m) (rgc emptyS emptyS)).1
  have z2 := Lib.hid (two_new w (MO m) (rgc emptyS emptyS)).2
  obtain ⟨c0, c1, c2, c3, c4, c5⟩ := cells6 z1.out
  go_enter Tryz.func59, Tryz.ntmps59
  cases e1 : isPt m.kd with
  | true =>
    go_wp2_with (first
      | (go_at_call 60; ((with_reducible refine (isp_any m _).mono ?_); rintro e w1 ⟨rfl, b1⟩; obtain ⟨d0, d1, d2, d3, d4, d5⟩ := cells6 (keep_bel b1 z1.out); have Z2 := Lib.hid (keep_bel b1 z2.out); have B1 := Lib.hid (bel_trans H0.out b1); clear b1))
      | (go_at_call 83; ((with_reducible refine (point_any m.ky _ O1.out).mono ?_); rintro e w2 ⟨rfl, b2⟩; obtain ⟨f0, f1, f2, f3⟩ := has_two (keep_bel b2 Z2.out); have B2 := Lib.hid (bel_trans B1.out b2); clear b2))
      | fail)
    refine bodyPost_ret (v := SV m) (by simp [results, Tryz.results59, go_sem, f0, f1, spF, spT, e1]) rfl ⟨rfl, ?_⟩
    exact Below.setCell (Below.setCell B2.out (by simp) _) (by simp) _
  | false =>
    cases e2 : m.kd == 4 <;>
    · go_wp2_with (first
        | (go_at_call 60; ((with_reducible refine (isp_any m _).mono ?_); rintro e w1 ⟨rfl, b1⟩; obtain ⟨d0, d1, d2, d3, d4, d5⟩ := cells6 (keep_bel b1 z1.out); obtain ⟨f0, f1, f2, f3⟩ := has_two (keep_bel b1 z2.out); have B1 := Lib.hid (bel_trans H0.out b1); clear b1))
        | fail)
      refine bodyPost_ret (v := SV m) (by simp [results, Tryz.results59, go_sem, f0, f1, spF, spT, e1, e2]) rfl ⟨rfl, ?_⟩
      first
        | exact Below.setCell (Below.setCell B1.out (by simp) _) (by simp) _
        | exact B1.out

end Go.Proofs.YtilnpeekajnlhaaGreat
namespace Go.Proofs.YtilnpeekajnlhaaGreat
open Go.RowKit Go.Maps
set_option maxHeartbeats 1000000 in
theorem rspan_any (m : MG) (ho : m.Ok) (w : World) :
    Calls Tryz.prog 40 #[MV m] w fun r w' => r = .returned (SV m) ∧ Below w.heap.size w w' := by
  obtain ⟨o1, _, _⟩ := ho
  have O1 : m.ky.size + 1 ≤ 9223372036854775807 := by omega
  clear o1
  have H0 := Lib.hid (bel_alloc (alb w (MO m)) (rgc emptyS emptyS))
  have z1 := Lib.hid (two_new w (MO m) (rgc emptyS emptyS)).1
  have z2 := Lib.hid (two_new w (MO m) (rgc emptyS emptyS)).2
  obtain ⟨c0, c1, c2, c3, c4, c5⟩ := cells6 z1.out
  go_enter Tryz.func40, Tryz.ntmps40
  cases e1 : isPt m.kd with
  | true =>
    go_wp2_with (first
      | (go_at_call 73; ((with_reducible refine (rpt_any m _).mono ?_); rintro e w1 ⟨rfl, b1⟩; obtain ⟨d0, d1, d2, d3, d4, d5⟩ := cells6 (keep_bel b1 z1.out); obtain ⟨f0, f1, f2, f3⟩ := has_two (keep_bel b1 z2.out); have B1 := Lib.hid (bel_trans H0.out b1); clear b1))
      | fail)
    refine bodyPost_ret (v := SV m) (by simp [results, Tryz.results40, go_sem, f0, f1, spF, spT, e1]) rfl ⟨rfl, ?_⟩
    exact Below.setCell (Below.setCell B1.out (by simp) _) (by simp) _
  | false =>
    cases e2 : m.kd == 4 <;>
    · go_wp2_with (first
        | (go_at_call 73; ((with_reducible refine (rpt_any m _).mono ?_); rintro e w1 ⟨rfl, b1⟩; obtain ⟨d0, d1, d2, d3, d4, d5⟩ := cells6 (keep_bel b1 z1.out); obtain ⟨f0, f1, f2, f3⟩ := has_two (keep_bel b1 z2.out); have B1 := Lib.hid (bel_trans H0.out b1); clear b1))
        | fail)
      refine bodyPost_ret (v := SV m) (by simp [results, Tryz.results40, go_sem, f0, f1, spF, spT, e1, e2]) rfl ⟨rfl, ?_⟩
      first
        | exact Below.setCell (Below.setCell B1.out (by simp) _) (by simp) _
        | exact B1.out
end Go.Proofs.YtilnpeekajnlhaaGreat
namespace Go.Proofs.YtilnpeekajnlhaaGreat
open Go.RowKit Go.Maps
def OkA (xs : List MG) : Prop := ∀ x ∈ xs, x.Ok
theorem OkA.get {xs : List MG} (h : OkA xs) {k : Nat} {x : MG} (hx : xs[k]? = some x) : x.Ok := h x (List.mem_of_getElem? hx)
def byN : List MG → Int
  | [] => 0
  | x :: xs => szN x + byN xs
theorem byN_app (xs ys : List MG) : byN (xs ++ ys) = byN xs + byN ys := by
  induction xs with
  | nil => simp [byN]
  | cons x xs ih => simp [byN, ih]; omega
theorem byN_next {xs : List MG} {k : Nat} {x : MG} (h : xs[k]? = some x) : byN (xs.take (k + 1)) = byN (xs.take k) + szN x := by
  rw [List.take_add_one, h, byN_app]; simp [byN]
theorem szN_le {x : MG} (h : x.Ok) : 0 ≤ szN x ∧ szN x ≤ 500000000000000 := by
  obtain ⟨h1, h2, h3⟩ := h
  unfold szN; omega
theorem byN_le {xs : List MG} (h : OkA xs) : 0 ≤ byN xs ∧ byN xs ≤ 500000000000000 * (xs.length : Int) := by
  induction xs with
  | nil => simp [byN]
  | cons x xs ih =>
    obtain ⟨a, b⟩ := ih (fun y hy => h y (List.mem_cons_of_mem _ hy))
    obtain ⟨c, d⟩ := szN_le (h x List.mem_cons_self)
    simp only [byN, List.length_cons]
    omega
theorem byN_take {xs : List MG} (h : OkA xs) (k : Nat) : 0 ≤ byN (xs.take k) ∧ byN (xs.take k) ≤ 500000000000000 * (k : Int) := by
  obtain ⟨a, b⟩ := byN_le (xs := xs.take k) (fun y hy => h y (List.mem_of_mem_take hy))
  have : ((xs.take k).length : Int) ≤ k := by simp [List.length_take]; omega
  exact ⟨a, by omega⟩
set_option maxRecDepth 10000 in
set_option maxHeartbeats 2000000 in
theorem bytes_any (A : Option Addr) (n cap : Nat) (xs : List MG) (w : World) (hl : xs.length = n) (hn : n ≤ 1000) (hA : EG.Rd w A xs) (ho : OkA xs) :
    Calls Tryz.prog 78 #[.slice A n cap] w fun r w' => r = .returned (.int .i64 (byN xs)) ∧ Below w.heap.size w w' := by
  have HL := Lib.hid hl
  have HA := Lib.hid hA
  have HO := Lib.hid ho
  clear hl hA ho
  go_enter Tryz.func78, Tryz.ntmps78
  go_wp2
  go_loopw [3, 8] (fun sv iv wr => ∃ (k : Nat) (s : Int), k ≤ n ∧ iv = .int .i64 k ∧ sv = .int .i64 s ∧ byN (xs.take k) = s ∧ Below w.heap.size w wr) (fun _ i _ => n - (intOf i).toNat)
  case atStart => exact ⟨0, 0, by omega, rfl, rfl, rfl, Below.refl _ _⟩
  case round =>
    obtain ⟨k, s, hk, rfl, rfl, hm, hb⟩ := hrel
    have HM := Lib.hid hm
    have HB := Lib.hid hb
    clear hm hb
    by_cases h8 : k < n
    · have hk1 : (k : Int) < (n : Int) := by omega
      have hk0 : (0 : Int) ≤ (k : Int) := by omega
      obtain ⟨x, hx⟩ : ∃ x, xs[k]? = some x := ⟨_, List.getElem?_eq_getElem (by rw [HL.out]; omega)⟩
      obtain ⟨b, off, rfl, hlt, g0, g1, g2, g3, g4, g5⟩ := eg_at (HA.out.later HB.out) hx
      have HNX := Lib.hid (byN_next hx)
      have AX := Lib.hid (size_any x (HO.out.get hx) (wr.alloc (MO x)))
      obtain ⟨s1, s2⟩ := szN_le (HO.out.get hx)
      obtain ⟨t1, t2⟩ := byN_take HO.out k
      rw [HM.out] at t1 t2 HNX
      have t3 : s ≤ 500000000000000000 := by omega
      obtain ⟨u, hu⟩ : ∃ u, u = szN x := ⟨_, rfl⟩
      rw [← hu] at s1 s2 AX HNX
      clear hx hlt t2 hu
      go_wp2_with (first
        | (go_at_call 96; ((with_reducible refine AX.out.mono ?_); rintro e w1 ⟨rfl, b1⟩; have B1 := Lib.hid (bel_a b1); clear b1))
        | fail)
      exact ⟨⟨k + 1, s + u, by omega, by simp, rfl, HNX.out, bel_trans HB.out B1.out⟩, by simp [intOf]; omega⟩
    · have hk1 : ¬ (k : Int) < (n : Int) := by omega
      have e : xs.take k = xs := List.take_of_length_le (by rw [HL.out]; omega)
      rw [e] at HM
      have hm := HM.out
      subst hm
      go_wp2
      go_ret
      exact ⟨rfl, HB.out⟩
end Go.Proofs.YtilnpeekajnlhaaGreat
namespace Go.Proofs.YtilnpeekajnlhaaGreat
open Go.ChangeShapes Go.WideShapes Go.ChangeAt Go.RowKit Go.Joins
theorem od_c3 : Tryz.prog.cellsOf 3 = 1 := by kernel_rfl
theorem od_c9 : Tryz.prog.cellsOf 9 = 1 := by kernel_rfl
theorem od_c28 : Tryz.prog.cellsOf 47 = 1 := by kernel_rfl
theorem od_c29 : Tryz.prog.cellsOf 48 = 1 := by kernel_rfl
theorem od_c31 : Tryz.prog.cellsOf 50 = 6 := by kernel_rfl
theorem sz_of {H : Type} {ts : List TypeId} {ds : List (DataW H)} (h : (DataW.weightsEach Tryz.prog ts ds).all (· ≤ reachBytes) = true) {j : Nat} {t : TypeId} {d : DataW H} (ht : ts[j]? = some t) (hd : ds[j]? = some d) : ∀ q ∈ d.weights Tryz.prog t, q ≤ reachBytes :=
  fun q hq => by simpa using List.all_eq_true.1 h q (DataW.weights_mem_each ht hd q hq)
theorem w_agg {H : Type} {parts : List (DataW H)} {fs : Array Field} {t : TypeId} {j : Nat} {d : DataW H} {f : Field} (hu : Tryz.prog.underlying t = some (.struct fs)) (hp : parts[j]? = some d) (hf : fs[j]? = some f) {q : Nat} (hq : q ∈ d.weights Tryz.prog f.type) : q ∈ (DataW.agg parts).weights Tryz.prog t := by
  simp only [DataW.weights, hu]
  exact DataW.weights_mem_each (by simp [hf]) hp q hq
theorem w_all {H : Type} {e : TypeId} {d : DataW H} {q : Nat} (hq : q ∈ d.weights Tryz.prog e) : ∀ {l : List (DataW H)}, d ∈ l → q ∈ DataW.weightsAll Tryz.prog e l
  | x :: l, h => by
    simp only [DataW.weightsAll, List.mem_append]
    rcases List.mem_cons.1 h with rfl | h
    · exact .inl hq
    · exact .inr (w_all hq h)
theorem w_slice {H : Type} {l spare : List (DataW H)} {t e : TypeId} {d : DataW H} (hu : Tryz.prog.underlying t = some (.slice e)) (hd : d ∈ l) {q : Nat} (hq : q ∈ d.weights Tryz.prog e) : q ∈ (DataW.slice l spare).weights Tryz.prog t := by
  simp only [DataW.weights, hu]
  exact List.mem_cons_of_mem _ (List.mem_append_left _ (w_all hq hd))
theorem RE.all_at {α : Type} (E : RE α) {xs : List α} {j : Nat} {u : Value} (h : (E.all xs)[j]? = some u) : ∃ k i x, xs[k]? = some x ∧ j = k * E.k + i ∧ (E.cs x)[i]? = some u := by
  induction xs generalizing j with
  | nil => simp [RE.all] at h
  | cons x xs ih =>
    rw [RE.all_cons] at h
    by_cases hj : j < E.k
    · rw [List.getElem?_append_left (by rw [E.len]; exact hj)] at h
      exact ⟨0, j, x, rfl, by omega, h⟩
    · rw [List.getElem?_append_right (by rw [E.len]; omega), E.len] at h
      obtain ⟨k, i, y, h1, h2, h3⟩ := ih h
      exact ⟨k + 1, i, y, by simpa using h1, by rw [Nat.succ_mul]; omega, h3⟩
theorem zok : (⟨0, 0, .empty, .empty, .empty, 0⟩ : MG).Ok := by refine ⟨?_, ?_, ?_⟩ <;> decide
end Go.Proofs.YtilnpeekajnlhaaGreat
namespace Go.Proofs.YtilnpeekajnlhaaGreat
theorem wT {P : Program} {md : Region.Mode} {ops : Array Oper} {Q : Exit → Act → World → Prop} {S : World → Prop} {i : Nat} {oi : Oper} {v : Value} {fuel : Nat} {listed : Array Bool} {a : Act} {w : World} (hi : ops[i]? = some oi) (hy : YieldsIf P ops S oi v a) (hS : S w) (h : wpAnyH P md ops Q S fuel (listed.setIfInBounds i true) (a.put oi.dst v) w)
    (hs : Region.noSelect ops = true := by kernel_rfl) (hf : Region.free md ops listed i = true := by kernel_rfl) (hr : (Region.ready md ops listed).contains i = true := by kernel_rfl) (hQ : ∀ c a w, Q (.panic c) (a.put oi.dst v) w → Q (.panic c) a w := by exact fun _ _ _ h => h) : wpAnyH P md ops Q S (fuel + 1) listed a w := wpAnyH_take hi hs hf hr hQ hy hS h
theorem pu (a : Act) (d : Tmp) (v : Value) : a.put (some d) v = { a with tmps := a.tmps.setIfInBounds d v } := rfl
theorem pn (a : Act) (v : Value) : a.put none v = a := rfl
theorem s1 {α : Type} (l : List α) (i : Nat) (a : α) : l.toArray.setIfInBounds i a = (l.set i a).toArray := List.setIfInBounds_toArray l i a
theorem s2 {α : Type} (a b : α) (l : List α) : (a :: l).set 0 b = b :: l := rfl
theorem s3 {α : Type} (a b : α) (l : List α) (n : Nat) : (a :: l).set (n + 1) b = a :: l.set n b := rfl
end Go.Proofs.YtilnpeekajnlhaaGreat
namespace Go.Proofs.YtilnpeekajnlhaaGreat
open Go.RowKit Go.Maps
set_option maxRecDepth 10000 in
set_option maxHeartbeats 2000000 in
theorem same_any (A B : Option Addr) (n c d : Nat) (xs : List MG) (w : World) (hl : xs.length = n) (hn : n ≤ 1000) (hA : EG.Rd w A xs) (hB : EG.Rd w B xs) :
    Calls Tryz.prog 27 #[.slice A n c, .slice B n d] w fun r w' => r = .returned (.bool true) ∧ Below w.heap.size w w' := by
  have HL := Lib.hid hl
  have HA := Lib.hid hA
  have HB2 := Lib.hid hB
  clear hl hA hB
  go_enter Tryz.func27, Tryz.ntmps27
  go_wp2
  go_loopw [5] (fun iv wr => ∃ (k : Nat), k ≤ n ∧ iv = .int .i64 k ∧ Below w.heap.size w wr) (fun i _ => n - (intOf i).toNat)
  case atStart => exact ⟨0, by omega, rfl, Below.refl _ _⟩
  case round =>
    obtain ⟨k, hk, rfl, hb⟩ := hrel
    have HB := Lib.hid hb
    clear hb
    by_cases h8 : k < n
    · have hk1 : (k : Int) < (n : Int) := by omega
      have hk0 : (0 : Int) ≤ (k : Int) := by omega
      obtain ⟨x, hx⟩ : ∃ x, xs[k]? = some x := ⟨_, List.getElem?_eq_getElem (by rw [HL.out]; omega)⟩
      obtain ⟨b, off, rfl, hlt, g0, g1, g2, g3, g4, g5⟩ := eg_at (HA.out.later HB.out) hx
      obtain ⟨b', off', rfl, hlt', e0, e1, e2, e3, e4, e5⟩ := eg_at (HB2.out.later HB.out) hx
      clear hx hlt hlt'
      go_wp2_with fail
      go_quiet (fail)
      go_wp2
      exact ⟨⟨k + 1, by omega, by simp, bel_drewN HB.out _⟩, by simp [intOf]; omega⟩
    · have hk1 : ¬ (k : Int) < (n : Int) := by omega
      go_wp2
      go_ret
      exact ⟨rfl, HB.out⟩
def wiR (b0 b1 : ByteArray) (x : MG) : Bool := sb (spF x) (spT x) && (sb b0 b1 && (!lt (spF x) b0 && !bef b1 (spT x)))
theorem all_take {p : MG → Bool} {xs : List MG} {k : Nat} (h : (xs.take k).all p = true) {x : MG} (hx : xs[k]? = some x) (hp : p x = true) : (xs.take (k + 1)).all p = true := by
  rw [List.take_add_one, hx]; simp [h, hp]
theorem all_no {p : MG → Bool} {xs : List MG} {k : Nat} {x : MG} (hx : xs[k]? = some x) (hp : p x = false) : xs.all p = false := by
  rw [List.all_eq_false]; exact ⟨x, List.mem_of_getElem? hx, by simp [hp]⟩
abbrev SW (wr : World) (g b o : Nat) (b0 b1 : ByteArray) (x : MG) (W : World) : Prop := Below wr.heap.size wr W ∧ W.cell? ⟨g, 0, none⟩ = some (.string b0) ∧ W.cell? ⟨g, 1, none⟩ = some (.string b1) ∧ W.cell? ⟨b, o, none⟩ = some (.int .u8 x.kd) ∧ W.cell? ⟨b, o + 1, none⟩ = some (.int .i64 x.sq) ∧ W.cell? ⟨b, o + 2, none⟩ = some (.string x.ky) ∧ W.cell? ⟨b, o + 3, none⟩ = some (.string x.to) ∧ W.cell? ⟨b, o + 4, none⟩ = some (.string x.vl) ∧ W.cell? ⟨b, o + 5, none⟩ = some (.int .u64 x.dl)
set_option maxRecDepth 10000 in
set_option maxHeartbeats 2000000 in
theorem rwithinA_any (b0 b1 : ByteArray) (A : Option Addr) (n c : Nat) (xs : List MG) (w : World) (hl : xs.length = n) (hn : n ≤ 1000) (hA : EG.Rd w A xs) (ho : OkA xs) :
    Calls Tryz.prog 18 #[.slice A n c, .agg #[.string b0, .string b1]] w fun r w' => r = .returned (.bool (xs.all (wiR b0 b1))) ∧ Below w.heap.size w w' := by
  have HL := Lib.hid hl
  have HA := Lib.hid hA
  have HO := Lib.hid ho
  have H0 := Lib.hid (alb w (rgc b0 b1))
  have z0 := Lib.hid (heap_alloc_new w (rgc b0 b1))
  clear hl hA ho
  go_enter Tryz.func18, Tryz.ntmps18
  go_wp2
  go_loopw [5] (fun iv wr => ∃ (k : Nat), k ≤ n ∧ iv = .int .i64 k ∧ (xs.take k).all (wiR b0 b1) = true ∧ Below (w.alloc (rgc b0 b1)).heap.size (w.alloc (rgc b0 b1)) wr) (fun i _ => n - (intOf i).toNat)
  case atStart => exact ⟨0, by omega, rfl, rfl, Below.refl _ _⟩
  case round =>
    obtain ⟨k, hk, rfl, ha, hb⟩ := hrel
    have HB := Lib.hid (bel_trans H0.out hb)
    have HP := Lib.hid hb
    have HAL := Lib.hid ha
    obtain ⟨d0, d1, -, -⟩ := has_two (keep_bel hb z0.out)
    clear hb ha
    by_cases h8 : k < n
    · have hk1 : (k : Int) < (n : Int) := by omega
      have hk0 : (0 : Int) ≤ (k : Int) := by omega
      obtain ⟨x, hx⟩ : ∃ x, xs[k]? = some x := ⟨_, List.getElem?_eq_getElem (by rw [HL.out]; omega)⟩
      obtain ⟨b, off, rfl, hlt, g0, g1, g2, g3, g4, g5⟩ := eg_at (HA.out.later HB.out) hx
      have HX := Lib.hid hx
      have HOX := Lib.hid (HO.out.get hx)
      clear hx hlt
      have AW := Lib.hid (fun W => rwithin_any (spF x) (spT x) b0 b1 W)
      cases hh : wiR b0 b1 x
      all_goals
        have hw := hh
        unfold wiR at hw
        rw [hw] at AW
        clear hw
        go_wp2_with fail
        have KS := Lib.hid (show ∀ W, Below wr.heap.size wr W → SW wr w.heap.size b (off + k * 6) b0 b1 x W from fun W h => ⟨h, bel_later h d0, bel_later h d1, bel_later h g0, bel_later h g1, bel_later h g2, bel_later h g3, bel_later h g4, bel_later h g5⟩)
        clear g0 g1 g2 g3 g4 g5 d0 d1
        go_region_held3 (fun W => Below wr.heap.size wr W ∧ W.cell? ⟨w.heap.size, 0, none⟩ = some (.string b0) ∧ W.cell? ⟨w.heap.size, 1, none⟩ = some (.string b1) ∧ W.cell? ⟨b, off + k * 6, none⟩ = some (.int .u8 x.kd) ∧ W.cell? ⟨b, off + k * 6 + 1, none⟩ = some (.int .i64 x.sq) ∧ W.cell? ⟨b, off + k * 6 + 2, none⟩ = some (.string x.ky) ∧ W.cell? ⟨b, off + k * 6 + 3, none⟩ = some (.string x.to) ∧ W.cell? ⟨b, off + k * 6 + 4, none⟩ = some (.string x.vl) ∧ W.cell? ⟨b, off + k * 6 + 5, none⟩ = some (.int .u64 x.dl)) (first | exact KS.out _ ((Below.refl _ _).drew) | exact KS.out _ (bel_trans (And.left ‹_›) ‹_›) | (trace_state; fail)) (first
          | (go_at_call 40; ((with_reducible refine (rspan_any x HOX.out _).mono ?_); rintro e w1 ⟨rfl, b1⟩))
          | (go_at_call 43; ((with_reducible refine (AW.out _).mono ?_); rintro e w1 ⟨rfl, b1⟩)))
        all_goals
          rename_i hH
          have HW := Lib.hid (bel_trans HB.out hH.1)
          have HPW := Lib.hid (bel_trans HP.out hH.1)
          have HH := Lib.hid hh
          clear hH hh
          go_wp2
          first
            | exact ⟨⟨k + 1, by omega, by simp, all_take HAL.out HX.out HH.out, HPW.out⟩, by simp [intOf]; omega⟩
            | (go_ret; exact ⟨by rw [all_no HX.out HH.out]; rfl, HW.out⟩)
    · have hk1 : ¬ (k : Int) < (n : Int) := by omega
      have e : xs.take k = xs := List.take_of_length_le (by rw [HL.out]; omega)
      rw [e] at HAL
      have hal := HAL.out
      go_wp2
      go_ret
      exact ⟨by first | rfl | (rw [hal]; rfl), HB.out⟩
end Go.Proofs.YtilnpeekajnlhaaGreat
