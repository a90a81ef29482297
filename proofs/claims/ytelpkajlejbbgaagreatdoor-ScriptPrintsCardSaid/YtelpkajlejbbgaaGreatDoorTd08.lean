/- Texts of the proof, one behind the other. -/
import Derived.Test.YtelpkajlejbbgaaGreatDoorTd05
import Derived.Test.YtelpkajlejbbgaaGreatDoorTd06
import Derived.Test.YtelpkajlejbbgaaGreatDoorTd07
set_option linter.unusedVariables false
set_option linter.unusedSimpArgs false
namespace Go.Proofs.YtelpkajlejbbgaaGreatDoor
open Go.RowKit

/-- What a message is answered. -/
def mF (k dl a0 a1 : Int) (key too val : ByteArray) : Int :=
  if k = 1 then (if ¬ too.toList = [] then 3 else if ¬ dl = 0 then 3 else if a1 < (val.size : Int) then 6 else if rightS key a0 = true then 0 else 6)
  else if k = 2 then (if ¬ too.toList = [] then 3 else if ¬ val.toList = [] then 3 else if ¬ dl = 0 then 3 else if rightS key a0 = true then 0 else 6)
  else if k = 3 then (if ¬ too.toList = [] then 3 else if ¬ val.toList = [] then 3 else if rightS key a0 = true then 0 else 6)
  else if k = 4 then (if ¬ val.toList = [] then 3 else if ¬ dl = 0 then 3 else if a0 < (key.size : Int) then 6 else if a0 < (too.size : Int) then 6 else if sbS key too = true then 0 else 7)
  else 3

theorem mchk_any (k q dl a0 a1 a2 a3 a4 a5 a6 a7 a8 : Int) (key too val : ByteArray) (w : World) :
    Calls Tryz.prog 69 #[.agg #[.int .u8 k, .int .i64 q, .string key, .string too, .string val, .int .u64 dl], cfg a0 a1 a2 a3 a4 a5 a6 a7 a8] w fun e w' => e = .returned (.int .i64 (mF k dl a0 a1 key too val)) ∧ Below w.heap.size w w' := by
  unfold mF
  by_cases k1 : k = 1
  · subst k1
    rw [if_pos rfl]
    by_cases hT : too.toList = []
    · rw [if_neg (by simpa using hT)]
      by_cases hD : dl = 0
      · subst hD
        rw [if_neg (by simp)]
        by_cases hS : a1 < (val.size : Int)
        · rw [if_pos hS]; exact mchk_1v q a0 a1 a2 a3 a4 a5 a6 a7 a8 key too val w hT hS
        · rw [if_neg hS]
          by_cases hR : rightS key a0 = true
          · rw [if_pos hR]; exact mchk_1g q a0 a1 a2 a3 a4 a5 a6 a7 a8 key too val w hT hS hR
          · rw [if_neg hR]; exact mchk_1b q a0 a1 a2 a3 a4 a5 a6 a7 a8 key too val w hT hS (by simpa using hR)
      · rw [if_pos hD]; exact mchk_1d q dl a0 a1 a2 a3 a4 a5 a6 a7 a8 key too val w hT hD
    · rw [if_pos hT]; exact mchk_1t q dl a0 a1 a2 a3 a4 a5 a6 a7 a8 key too val w hT
  rw [if_neg k1]
  by_cases k2 : k = 2
  · subst k2
    rw [if_pos rfl]
    by_cases hT : too.toList = []
    · rw [if_neg (by simpa using hT)]
      by_cases hV : val.toList = []
      · rw [if_neg (by simpa using hV)]
        by_cases hD : dl = 0
        · subst hD
          rw [if_neg (by simp)]
          by_cases hR : rightS key a0 = true
          · rw [if_pos hR]; exact mchk_2g q a0 a1 a2 a3 a4 a5 a6 a7 a8 key too val w hT hV hR
          · rw [if_neg hR]; exact mchk_2b q a0 a1 a2 a3 a4 a5 a6 a7 a8 key too val w hT hV (by simpa using hR)
        · rw [if_pos hD]; exact mchk_2d q dl a0 a1 a2 a3 a4 a5 a6 a7 a8 key too val w hT hV hD
      · rw [if_pos hV]; exact mchk_2v q dl a0 a1 a2 a3 a4 a5 a6 a7 a8 key too val w hT hV
    · rw [if_pos hT]; exact mchk_2t q dl a0 a1 a2 a3 a4 a5 a6 a7 a8 key too val w hT
  rw [if_neg k2]
  by_cases k3 : k = 3
  · subst k3
    rw [if_pos rfl]
    by_cases hT : too.toList = []
    · rw [if_neg (by simpa using hT)]
      by_cases hV : val.toList = []
      · rw [if_neg (by simpa using hV)]
        by_cases hR : rightS key a0 = true
        · rw [if_pos hR]; exact mchk_3g q dl a0 a1 a2 a3 a4 a5 a6 a7 a8 key too val w hT hV hR
        · rw [if_neg hR]; exact mchk_3b q dl a0 a1 a2 a3 a4 a5 a6 a7 a8 key too val w hT hV (by simpa using hR)
      · rw [if_pos hV]; exact mchk_3v q dl a0 a1 a2 a3 a4 a5 a6 a7 a8 key too val w hT hV
    · rw [if_pos hT]; exact mchk_3t q dl a0 a1 a2 a3 a4 a5 a6 a7 a8 key too val w hT
  rw [if_neg k3]
  by_cases k4 : k = 4
  · subst k4
    rw [if_pos rfl]
    by_cases hV : val.toList = []
    · rw [if_neg (by simpa using hV)]
      by_cases hD : dl = 0
      · subst hD
        rw [if_neg (by simp)]
        by_cases hS : a0 < (key.size : Int)
        · rw [if_pos hS]; exact mchk_4s q a0 a1 a2 a3 a4 a5 a6 a7 a8 key too val w hV hS
        rw [if_neg hS]
        by_cases hU : a0 < (too.size : Int)
        · rw [if_pos hU]; exact mchk_4u q a0 a1 a2 a3 a4 a5 a6 a7 a8 key too val w hV hS hU
        rw [if_neg hU]
        by_cases hG : sbS key too = true
        · rw [if_pos hG]; exact mchk_4g q a0 a1 a2 a3 a4 a5 a6 a7 a8 key too val w hV hS hU hG
        · rw [if_neg hG]; exact mchk_4b q a0 a1 a2 a3 a4 a5 a6 a7 a8 key too val w hV hS hU (by simpa using hG)
      · rw [if_pos hD]; exact mchk_4d q dl a0 a1 a2 a3 a4 a5 a6 a7 a8 key too val w hV hD
    · rw [if_pos hV]; exact mchk_4v q dl a0 a1 a2 a3 a4 a5 a6 a7 a8 key too val w hV
  rw [if_neg k4]
  by_cases hT : too.toList = []
  · by_cases hV : val.toList = []
    · by_cases hD : dl = 0
      · subst hD; exact mchk_oo k q a0 a1 a2 a3 a4 a5 a6 a7 a8 key too val w k1 k2 k3 k4 hT hV
      · exact mchk_od k q dl a0 a1 a2 a3 a4 a5 a6 a7 a8 key too val w k1 k2 k3 k4 hT hV hD
    · exact mchk_ov k q dl a0 a1 a2 a3 a4 a5 a6 a7 a8 key too val w k1 k2 k3 k4 hT hV
  · exact mchk_ot k q dl a0 a1 a2 a3 a4 a5 a6 a7 a8 key too val w k1 k2 k3 k4 hT
end Go.Proofs.YtelpkajlejbbgaaGreatDoor
namespace Go.Proofs.YtelpkajlejbbgaaGreatDoor
open Go.RowKit

/-- The cells of messages lie behind a slice's address, in a block below B. -/
def MsL (w : World) (B : Nat) (A : Option Addr) (l : List M) : Prop :=
  l = [] ∨ ∃ b off, A = some ⟨b, off, none⟩ ∧ b < B ∧ ∀ j (h : j < l.length), w.cell? ⟨b, off + j * 6, none⟩ = some (.int .u8 l[j].k) ∧ w.cell? ⟨b, off + j * 6 + 1, none⟩ = some (.int .i64 l[j].q) ∧
    w.cell? ⟨b, off + j * 6 + 2, none⟩ = some (.string l[j].key) ∧ w.cell? ⟨b, off + j * 6 + 3, none⟩ = some (.string l[j].too) ∧ w.cell? ⟨b, off + j * 6 + 4, none⟩ = some (.string l[j].val) ∧ w.cell? ⟨b, off + j * 6 + 5, none⟩ = some (.int .u64 l[j].dl)
theorem MsL.get {w : World} {B : Nat} {A : Option Addr} {l : List M} (h : MsL w B A l) {j : Nat} (hj : j < l.length) : ∃ b off, A = some ⟨b, off, none⟩ ∧ b < B ∧ w.cell? ⟨b, off + j * 6, none⟩ = some (.int .u8 l[j].k) ∧ w.cell? ⟨b, off + j * 6 + 1, none⟩ = some (.int .i64 l[j].q) ∧
    w.cell? ⟨b, off + j * 6 + 2, none⟩ = some (.string l[j].key) ∧ w.cell? ⟨b, off + j * 6 + 3, none⟩ = some (.string l[j].too) ∧ w.cell? ⟨b, off + j * 6 + 4, none⟩ = some (.string l[j].val) ∧ w.cell? ⟨b, off + j * 6 + 5, none⟩ = some (.int .u64 l[j].dl) := by
  rcases h with rfl | ⟨b, off, hA, hlt, hc⟩
  · simp at hj
  · exact ⟨b, off, hA, hlt, hc j hj⟩


def fe (a0 a1 : Int) : List M → Int
  | [] => 0
  | m :: l => if mF m.k m.dl a0 a1 m.key m.too m.val = 0 then fe a0 a1 l else mF m.k m.dl a0 a1 m.key m.too m.val
/-- What messages are answered. -/
def abF (a0 a1 : Int) (l : List M) : Int := if 1024 < l.length then 8 else if l.all (fun m => m.q == 0) then fe a0 a1 l else 3
theorem all_take (l : List M) (k : Nat) (hk : k < l.length) (h : (l.take k).all (fun m => m.q == 0) = true) : (l.take (k + 1)).all (fun m => m.q == 0) = (l[k].q == 0) := by
  rw [List.take_succ_eq_append_getElem hk, List.all_append, h]; simp
theorem ab_no (a0 a1 : Int) (l : List M) (k : Nat) (hk : k < l.length) (hn : l.length ≤ 1024) (h : ¬ l[k].q = 0) : abF a0 a1 l = 3 := by
  unfold abF
  rw [if_neg (by omega), if_neg]
  intro h2
  have := List.all_eq_true.1 h2 l[k] (List.getElem_mem hk)
  simp at this
  exact h this
theorem fe_drop (a0 a1 : Int) (l : List M) (k : Nat) (hk : k < l.length) : fe a0 a1 (l.drop k) = if mF l[k].k l[k].dl a0 a1 l[k].key l[k].too l[k].val = 0 then fe a0 a1 (l.drop (k + 1)) else mF l[k].k l[k].dl a0 a1 l[k].key l[k].too l[k].val := by
  rw [List.drop_eq_getElem_cons hk]; rfl

set_option maxRecDepth 100000 in
set_option maxHeartbeats 4000000 in
theorem askBatch_some (a0 a1 a2 a3 a4 a5 a6 a7 a8 : Int) (A : Option Addr) (n c : Nat) (l : List M) (w : World) (hn : n ≤ 1024) (hl : l.length = n) (hA : MsL w w.heap.size A l) :
    Calls Tryz.prog 57 #[.slice A n c, cfg a0 a1 a2 a3 a4 a5 a6 a7 a8] w fun e w' => e = .returned (.int .i64 (abF a0 a1 l)) ∧ Below w.heap.size w w' := by
  have HL := Lib.hid hl
  have HA := Lib.hid hA
  have hn1 : ¬ ((1024 : Int) < (n : Int)) := by omega
  clear hl hA
  obtain ⟨r, hr⟩ : ∃ r, r = abF a0 a1 l := ⟨_, rfl⟩
  rw [← hr]
  have HR := Lib.hid hr
  clear hr
  go_enter Tryz.func57, Tryz.ntmps57
  go_wp2
  have c0 : (w.alloc (.cells #[.int .i64 a0, .int .i64 a1, .int .i64 a2, .int .i64 a3, .int .i64 a4, .int .i64 a5, .int .i64 a6, .int .i64 a7, .int .i64 a8] 23)).cell? ⟨w.heap.size, 0, none⟩ = some (.int .i64 a0) := by simp [go_sem]
  have c1 : (w.alloc (.cells #[.int .i64 a0, .int .i64 a1, .int .i64 a2, .int .i64 a3, .int .i64 a4, .int .i64 a5, .int .i64 a6, .int .i64 a7, .int .i64 a8] 23)).cell? ⟨w.heap.size, 1, none⟩ = some (.int .i64 a1) := by simp [go_sem]
  have c2 : (w.alloc (.cells #[.int .i64 a0, .int .i64 a1, .int .i64 a2, .int .i64 a3, .int .i64 a4, .int .i64 a5, .int .i64 a6, .int .i64 a7, .int .i64 a8] 23)).cell? ⟨w.heap.size, 2, none⟩ = some (.int .i64 a2) := by simp [go_sem]
  have c3 : (w.alloc (.cells #[.int .i64 a0, .int .i64 a1, .int .i64 a2, .int .i64 a3, .int .i64 a4, .int .i64 a5, .int .i64 a6, .int .i64 a7, .int .i64 a8] 23)).cell? ⟨w.heap.size, 3, none⟩ = some (.int .i64 a3) := by simp [go_sem]
  have c4 : (w.alloc (.cells #[.int .i64 a0, .int .i64 a1, .int .i64 a2, .int .i64 a3, .int .i64 a4, .int .i64 a5, .int .i64 a6, .int .i64 a7, .int .i64 a8] 23)).cell? ⟨w.heap.size, 4, none⟩ = some (.int .i64 a4) := by simp [go_sem]
  have c5 : (w.alloc (.cells #[.int .i64 a0, .int .i64 a1, .int .i64 a2, .int .i64 a3, .int .i64 a4, .int .i64 a5, .int .i64 a6, .int .i64 a7, .int .i64 a8] 23)).cell? ⟨w.heap.size, 5, none⟩ = some (.int .i64 a5) := by simp [go_sem]
  have c6 : (w.alloc (.cells #[.int .i64 a0, .int .i64 a1, .int .i64 a2, .int .i64 a3, .int .i64 a4, .int .i64 a5, .int .i64 a6, .int .i64 a7, .int .i64 a8] 23)).cell? ⟨w.heap.size, 6, none⟩ = some (.int .i64 a6) := by simp [go_sem]
  have c7 : (w.alloc (.cells #[.int .i64 a0, .int .i64 a1, .int .i64 a2, .int .i64 a3, .int .i64 a4, .int .i64 a5, .int .i64 a6, .int .i64 a7, .int .i64 a8] 23)).cell? ⟨w.heap.size, 7, none⟩ = some (.int .i64 a7) := by simp [go_sem]
  have c8 : (w.alloc (.cells #[.int .i64 a0, .int .i64 a1, .int .i64 a2, .int .i64 a3, .int .i64 a4, .int .i64 a5, .int .i64 a6, .int .i64 a7, .int .i64 a8] 23)).cell? ⟨w.heap.size, 8, none⟩ = some (.int .i64 a8) := by simp [go_sem]
  have hW : Below w.heap.size w (w.alloc (.cells #[.int .i64 a0, .int .i64 a1, .int .i64 a2, .int .i64 a3, .int .i64 a4, .int .i64 a5, .int .i64 a6, .int .i64 a7, .int .i64 a8] 23)) := by go_grown
  generalize (w.alloc (.cells #[.int .i64 a0, .int .i64 a1, .int .i64 a2, .int .i64 a3, .int .i64 a4, .int .i64 a5, .int .i64 a6, .int .i64 a7, .int .i64 a8] 23)) = W at *
  go_loopw [15] (fun iv wr => ∃ k : Nat, k ≤ n ∧ iv = .int .i64 k ∧ (l.take k).all (fun m => m.q == 0) = true ∧ Below W.heap.size W wr) (fun i _ => n - (intOf i).toNat)
  case atStart => exact ⟨0, by omega, rfl, rfl, Below.refl _ _⟩
  case round =>
    obtain ⟨k, hk, rfl, hall', hB'⟩ := hrel
    have hall := Lib.hid hall'
    have hB := Lib.hid hB'
    clear hall' hB'
    by_cases h8 : k = n
    · have hkn : ¬ (k : Int) < (n : Int) := by omega
      have hfe : Hid (r = fe a0 a1 l) := Lib.hid (by
        have h2 := hall.out
        rw [h8, ← HL.out, List.take_length] at h2
        rw [HR.out]; unfold abF; rw [if_neg (by have := HL.out; omega), if_pos h2])
      clear HR hall
      have x0 := bel_later hB.out c0
      have x1 := bel_later hB.out c1
      have x2 := bel_later hB.out c2
      have x3 := bel_later hB.out c3
      have x4 := bel_later hB.out c4
      have x5 := bel_later hB.out c5
      have x6 := bel_later hB.out c6
      have x7 := bel_later hB.out c7
      have x8 := bel_later hB.out c8
      go_wp2
      go_loopw [25] (fun iv wv => ∃ j : Nat, j ≤ n ∧ iv = .int .i64 j ∧ r = fe a0 a1 (l.drop j) ∧ Below W.heap.size W wv) (fun i _ => n - (intOf i).toNat)
      case atStart => exact ⟨0, by omega, rfl, by rw [hfe.out]; rfl, hB.out⟩
      case round =>
        obtain ⟨j, hj, rfl, hfj, hB'⟩ := hrel
        have HFJ := Lib.hid hfj
        clear hB hfe x0 x1 x2 x3 x4 x5 x6 x7 x8
        have hB := Lib.hid hB'
        clear hfj hB'
        by_cases h9 : j = n
        · have hjn : ¬ (j : Int) < (n : Int) := by omega
          have hr0 : Hid (r = 0) := Lib.hid (by rw [HFJ.out, h9, ← HL.out, List.drop_length]; rfl)
          clear HFJ
          go_wp2
          go_ret
          exact ⟨by rw [hr0.out]; rfl, bel_step hW hB.out (Nat.le_refl _)⟩
        · 
          have hkn : j < n := by omega
          have hk1 : (j : Int) < (n : Int) := by omega
          have hk0 : (0 : Int) ≤ (j : Int) := by omega
          have hkl : j < l.length := by rw [HL.out]; exact hkn
          obtain ⟨b, off, rfl, hlt, g0, g1, g2, g3, g4, g5⟩ := HA.out.get hkl
          have hAll : Below w.heap.size w wr := bel_step hW hB.out (Nat.le_refl _)
          have e0 := (bel_cell hAll hlt).trans g0
          have e1 := (bel_cell hAll hlt).trans g1
          have e2 := (bel_cell hAll hlt).trans g2
          have e3 := (bel_cell hAll hlt).trans g3
          have e4 := (bel_cell hAll hlt).trans g4
          have e5 := (bel_cell hAll hlt).trans g5
          obtain ⟨y, hy⟩ : ∃ y, y = l[j] := ⟨_, rfl⟩
          rw [← hy] at e0 e1 e2 e3 e4 e5
          have HY := Lib.hid hy
          clear g0 g1 g2 g3 g4 g5 hy hAll
          obtain ⟨mk, mq, mkey, mtoo, mval, mdl⟩ := y
          simp only at e0 e1 e2 e3 e4 e5
          have x0 := bel_later hB.out c0
          have x1 := bel_later hB.out c1
          have x2 := bel_later hB.out c2
          have x3 := bel_later hB.out c3
          have x4 := bel_later hB.out c4
          have x5 := bel_later hB.out c5
          have x6 := bel_later hB.out c6
          have x7 := bel_later hB.out c7
          have x8 := bel_later hB.out c8
          have hstep := fe_drop a0 a1 l j hkl
          rw [← HY.out] at hstep
          simp only at hstep
          have C := fun W => mchk_any mk mq mdl a0 a1 a2 a3 a4 a5 a6 a7 a8 mkey mtoo mval W
          obtain ⟨v, hv⟩ : ∃ v, v = mF mk mdl a0 a1 mkey mtoo mval := ⟨_, rfl⟩
          rw [← hv] at C hstep
          have HS := Lib.hid hstep
          have CC := Lib.hid C
          clear C hstep hv HY
          have hG : Below wr.heap.size wr (wr.alloc (.cells #[.int .u8 mk, .int .i64 mq, .string mkey, .string mtoo, .string mval, .int .u64 mdl] 51)) := by go_grown
          have q0 := bel_later hG x0
          have q1 := bel_later hG x1
          have q2 := bel_later hG x2
          have q3 := bel_later hG x3
          have q4 := bel_later hG x4
          have q5 := bel_later hG x5
          have q6 := bel_later hG x6
          have q7 := bel_later hG x7
          have q8 := bel_later hG x8
          by_cases hv0 : v = 0
          · have hr2 : Hid (r = fe a0 a1 (l.drop (j + 1))) := Lib.hid (by rw [HFJ.out, HS.out, if_pos hv0])
            subst hv0
            clear HS HFJ
            go_wp2_with fail
            refine (CC.out _).mono ?_
            rintro e w2 ⟨rfl, hb2⟩
            have hB2 : Below W.heap.size W w2 := bel_step hB.out (bel_step hG hb2 (Nat.le_refl _)) (Nat.le_refl _)
            clear hb2 q0 q1 q2 q3 q4 q5 q6 q7 q8 CC
            go_wp2
            exact ⟨⟨j + 1, by omega, by simp, hr2.out, hB2⟩, by simp [intOf]; omega⟩
          · have hr2 : Hid (r = v) := Lib.hid (by rw [HFJ.out, HS.out, if_neg hv0])
            clear HS HFJ
            go_wp2_with fail
            refine (CC.out _).mono ?_
            rintro e w2 ⟨rfl, hb2⟩
            have hB2 : Below W.heap.size W w2 := bel_step hB.out (bel_step hG hb2 (Nat.le_refl _)) (Nat.le_refl _)
            clear hb2 q0 q1 q2 q3 q4 q5 q6 q7 q8 CC
            go_wp2
            go_ret
            exact ⟨by rw [hr2.out]; rfl, bel_step hW hB2 (Nat.le_refl _)⟩
    · 
      have hkn : k < n := by omega
      have hk1 : (k : Int) < (n : Int) := by omega
      have hk0 : (0 : Int) ≤ (k : Int) := by omega
      have hkl : k < l.length := by rw [HL.out]; exact hkn
      obtain ⟨b, off, rfl, hlt, g0, g1, g2, g3, g4, g5⟩ := HA.out.get hkl
      have hAll : Below w.heap.size w wr := bel_step hW hB.out (Nat.le_refl _)
      have e0 := (bel_cell hAll hlt).trans g0
      have e1 := (bel_cell hAll hlt).trans g1
      have e2 := (bel_cell hAll hlt).trans g2
      have e3 := (bel_cell hAll hlt).trans g3
      have e4 := (bel_cell hAll hlt).trans g4
      have e5 := (bel_cell hAll hlt).trans g5
      obtain ⟨y, hy⟩ : ∃ y, y = l[k] := ⟨_, rfl⟩
      rw [← hy] at e0 e1 e2 e3 e4 e5
      have HY := Lib.hid hy
      clear g0 g1 g2 g3 g4 g5 hy hAll
      obtain ⟨mk, mq, mkey, mtoo, mval, mdl⟩ := y
      simp only at e0 e1 e2 e3 e4 e5

      by_cases hq : mq = 0
      · subst hq
        have hall2 : Hid ((l.take (k + 1)).all (fun m => m.q == 0) = true) := Lib.hid (by rw [all_take l k hkl hall.out, ← HY.out]; rfl)
        clear hall HR HY
        go_wp2
        exact ⟨⟨k + 1, by omega, by simp, hall2.out, bel_step hB.out (by go_grown) (Nat.le_refl _)⟩, by simp [intOf]; omega⟩
      · have hr3 : Hid (r = 3) := Lib.hid (by rw [HR.out]; exact ab_no a0 a1 l k hkl (by rw [HL.out]; exact hn) (by rw [← HY.out]; exact hq))
        clear hall HR HY
        go_wp2
        go_ret
        exact ⟨by rw [hr3.out]; rfl, bel_step hW (bel_step hB.out (by go_grown) (Nat.le_refl _)) (Nat.le_refl _)⟩
set_option maxRecDepth 100000 in
theorem askBatch_many (a0 a1 a2 a3 a4 a5 a6 a7 a8 : Int) (A : Option Addr) (n c : Nat) (l : List M) (w : World) (hn : 1024 < n) (hl : l.length = n) :
    Calls Tryz.prog 57 #[.slice A n c, cfg a0 a1 a2 a3 a4 a5 a6 a7 a8] w fun e w' => e = .returned (.int .i64 (abF a0 a1 l)) ∧ Below w.heap.size w w' := by
  have h8 : abF a0 a1 l = 8 := by unfold abF; rw [if_pos (by omega)]
  rw [h8]
  have hn1 : (1024 : Int) < (n : Int) := by omega
  clear h8 hl
  go_enter Tryz.func57, Tryz.ntmps57
  go_wp2
  go_ret
  exact ⟨rfl, by go_grown⟩
theorem askBatch_any (a0 a1 a2 a3 a4 a5 a6 a7 a8 : Int) (A : Option Addr) (n c : Nat) (l : List M) (w : World) (hl : l.length = n) (hA : MsL w w.heap.size A l) :
    Calls Tryz.prog 57 #[.slice A n c, cfg a0 a1 a2 a3 a4 a5 a6 a7 a8] w fun e w' => e = .returned (.int .i64 (abF a0 a1 l)) ∧ Below w.heap.size w w' := by
  by_cases h : 1024 < n
  · exact askBatch_many a0 a1 a2 a3 a4 a5 a6 a7 a8 A n c l w h hl
  · exact askBatch_some a0 a1 a2 a3 a4 a5 a6 a7 a8 A n c l w (by omega) hl hA
end Go.Proofs.YtelpkajlejbbgaaGreatDoor
