/- The document's turns. -/
import Derived.Test.YtdeligjggehdbaaA8
namespace Go.Proofs.Ytdeligjggehdbaa
set_option linter.unusedSimpArgs false
open Go.RowKit Go.Maps
set_option linter.unusedVariables false

def allK (q s : List Int) (k : Nat) : Bool := !q.isEmpty && (q.take k).all (fun x => s.contains x)
theorem allK_step {q s : List Int} {k : Nat} (hk : k < q.length) : allK q s (k + 1) = (allK q s k && s.contains (q.getD k 0)) := by
  unfold allK; rw [take_step hk, List.all_append]; simp [Bool.and_assoc]
theorem allK_end (q s : List Int) : allK q s q.length = allIn q s := by unfold allK allIn; rw [List.take_length]
/-- What the document's turns are answered. -/
def RTPost (w : World) (L : List (List Int)) (e : Ending) (w' : World) : Prop := ∃ v xs, e = .returned v ∧ w'.ownsRow w.heap.size 22 1 v L.length xs ∧ Pcs w' 0 v.ownBlock xs L ∧ Below w.heap.size w w'
structure TR2 (w wv : World) (p q : List Int) (i : Nat) (vv : Value) : Prop where
  own : ∃ (xs : List Value), wv.ownsRow w.heap.size 22 1 vv (TF p q i).1.length xs ∧ Pcs wv 0 vv.ownBlock xs (TF p q i).1
  below : Below w.heap.size w wv
theorem TR2.drewN {w wv : World} {p q : List Int} {i : Nat} {vv : Value} (h : TR2 w wv p q i vv) (m : Nat) : TR2 w (wv.drewN m) p q i vv := by
  obtain ⟨xs, h1, h2⟩ := h.own
  exact ⟨⟨xs, h1, h2⟩, bel_drewN h.below m⟩

set_option maxRecDepth 100000 in
set_option maxHeartbeats 2000000 in
theorem rturns_any (A1 A2 : Option Addr) (n1 c1 n2 c2 : Nat) (p q : List Int) (w : World) (hp : p.length = n1) (hq : q.length = n2) (h1 : n1 ≤ 1000000) (h2 : n2 ≤ 1000000) (hc : n1 ≤ c1) (hcm : c1 ≤ maxLen) (hA : RdI w A1 p) (hB : RdI w A2 q) :
    Calls Try.prog 12 #[.slice A1 n1 c1, .slice A2 n2 c2] w (RTPost w (TF p q n1).1) := by
  have hcm' := hcm
  unfold maxLen at hcm
  have HP := Lib.hid hp
  have HQ := Lib.hid hq
  have HA := Lib.hid hA
  have HB := Lib.hid hB
  have HCM := Lib.hid hcm'
  clear hp hq hA hB hcm'
  have hq0 : decide (0 < n2) = !q.isEmpty := by rw [← HQ.out]; cases q <;> simp
  obtain ⟨eb, heb⟩ : ∃ eb, eb = !q.isEmpty := ⟨_, rfl⟩
  rw [← heb] at hq0
  have HEB := Lib.hid heb
  clear heb
  obtain ⟨j0, hJ0, hJ1, hJ2, hJ3⟩ := info_parts info22
  have HT0 : Hid (TR2 w (w.alloc (.cells #[] 22)) p q 0 (.slice (some ⟨w.heap.size, 0, none⟩) 0 0)) := Lib.hid ⟨⟨[], World.ownsRow_made w #[] 0 (Nat.le_refl _) (Nat.zero_le _) (by simp), Pcs.nil _ _ _⟩, (Below.refl _ _).alloc (Nat.le_refl _) _⟩
  go_enter Try.func12, Try.ntmps12
  go_wp2
  go_loopw [5, 6, 7] (fun vv bv iv wv => ∃ (i : Nat), i ≤ n1 ∧ iv = .int .i64 i ∧ bv = .int .i64 ((TF p q i).2 : Nat) ∧ TR2 w wv p q i vv) (fun _ _ i _ => n1 - (intOf i).toNat)
  case atStart => exact ⟨0, by omega, rfl, rfl, HT0.out⟩
  case round =>
    clear HT0
    obtain ⟨i, hi, rfl, rfl, hT⟩ := hrel
    obtain ⟨wo, rfl⟩ : ∃ wo : World, wo = wr := ⟨_, rfl⟩
    have HT := Lib.hid hT
    clear hT
    by_cases h9 : i = n1
    · have hin : ¬ (i : Int) < (n1 : Int) := by omega
      have HI := Lib.hid h9
      clear h9
      obtain ⟨⟨xs, hrow, hpcs⟩, hbw⟩ := HT.out
      rw [HI.out] at hrow hpcs
      have HROW := Lib.hid hrow
      have HPCS := Lib.hid hpcs
      have HBW := Lib.hid hbw
      clear hrow hpcs hbw HT
      go_wp2
      exact bodyPost_ret (v := u5) (by simp [results, Try.results12, go_sem]) rfl ⟨u5, xs, rfl, HROW.out, HPCS.out, HBW.out⟩
    · have hin : i < n1 := by omega
      have hi1 : (i : Int) < (n1 : Int) := by omega
      have hi0 : (0 : Int) ≤ (i : Int) := by omega
      have hil : i < p.length := by rw [HP.out]; exact hin
      have hle := (TF_le p q i).1
      have hLn := (TF_le p q i).2
      have hTF : TF p q (i + 1) = if allIn q (segF p (TF p q i).2 (i + 1)) then ((TF p q i).1 ++ [segF p (TF p q i).2 (i + 1)], i + 1) else TF p q i := rfl
      have HTF := Lib.hid hTF
      obtain ⟨b, off, rfl, hlt, hgg⟩ := rdi_get HA.out hil
      have HSL := Lib.hid (seg_len p (TF p q i).2 (i + 1) (by omega) (by omega))
      have HSEG : Hid (RdI w (some ⟨b, off + (TF p q i).2, none⟩) (segF p (TF p q i).2 (i + 1))) := Lib.hid (rdi_sub HA.out (TF p q i).2 (i + 1 - (TF p q i).2))
      obtain ⟨f, hf⟩ : ∃ f, f = (TF p q i).2 := ⟨_, rfl⟩
      obtain ⟨sg, hsg⟩ : ∃ sg, sg = segF p f (i + 1) := ⟨_, rfl⟩
      rw [← hf] at HTF HSL HSEG hle
      rw [← hsg] at HTF HSL HSEG
      rw [← hf]
      have HF := Lib.hid hf
      have HSG := Lib.hid hsg
      clear hTF hgg hf hsg
      go_wp2
      go_loopw [8, 9] (fun av kv wv => ∃ (k d : Nat), k ≤ n2 ∧ kv = .int .i64 k ∧ av = .bool (allK q sg k) ∧ wv = wo.drewN d) (fun _ k _ => n2 - (intOf k).toNat)
      case atStart => exact ⟨0, 0, by omega, rfl, by simp [allK, HEB.out], rfl⟩
      case round =>
        obtain ⟨k, d, hk, rfl, rfl, hwr⟩ := hrel
        have HW := Lib.hid hwr
        clear hwr
        by_cases h8 : k = n2
        · have hkn : ¬ (k : Int) < (n2 : Int) := by omega
          have HAL : Hid (allK q sg k = allIn q sg) := Lib.hid (by rw [h8, ← HQ.out, allK_end])
          have HT2 : Hid (TR2 w wr p q i u5) := Lib.hid (by rw [HW.out]; exact HT.out.drewN d)
          clear HT HW
          by_cases ha : allIn q sg = true
          · have hak : allK q sg k = true := by rw [HAL.out]; exact ha
            have hTF2 : Hid (TF p q (i + 1) = ((TF p q i).1 ++ [sg], i + 1)) := Lib.hid (by rw [HTF.out, if_pos ha])
            obtain ⟨⟨xs, hrow, hpcs⟩, hbw⟩ := HT2.out
            have HROW := Lib.hid hrow
            have HPCS := Lib.hid hpcs
            have HBW := Lib.hid hbw
            clear hrow hpcs hbw HT2 ha HAL HTF
            rw [hak]
            clear hak
            go_wp2_with (first
              | (at_builtin; refine wpList_append_lies _ rfl (.tmp 40) (.tmp 46) 27 rfl w.heap.size 22 j0 (.slice none 0 0) 1 24 Try.underlying27 hJ0 hJ1 hJ2 hJ3 rfl (by decide) u5 (TF p q i).1.length xs rfl (HROW.out.alloc _) ⟨wr.heap.size, 0, none⟩ 1 1 [.slice (some ⟨b, off + f, none⟩) (i + 1 - f) (c1 - f)] rfl rfl (World.news_of_block (cs := #[.slice (some ⟨b, off + f, none⟩) (i + 1 - f) (c1 - f)]) (t := 22) (fr := (0, 0)) (heap_alloc_new wr _)) (by simp [Value.oneCell']) (by decide) (by unfold maxLen; omega) (by omega) (by have := HBW.out.size; simp; omega) (wr.heap.size + 1) (by simp) ?_; intro g2 cap2 w3 hout hg3 hloc3 hlt3; have HOUT := Lib.hid hout; have HG3 := Lib.hid hg3; have HLOC3 := Lib.hid hloc3; clear hout hg3 hloc3 hlt3)
              | fail)
            have hsg : segF p f (i + 1) = sg := HSG.out.symm
            have hp3 := HPCS.out.snoc (b := b) (off := off + f) (c := c1 - f) (s := sg) ⟨fun hob => by have := (HROW.out.lt b hob.symm).1; omega, Nat.zero_le _⟩ (Nat.lt_of_lt_of_le hlt HBW.out.size) (HSEG.out.later HBW.out) (by rw [HSL.out]; omega) (by have := HCM.out; omega)
            rw [HSL.out] at hp3
            have hp4 := (hp3.kept' (World.grownBy_alloc wr (.cells #[.slice (some ⟨b, off + f, none⟩) (i + 1 - f) (c1 - f)] 22) none) (fun b hb => by cases hb)).app HG3.out (HLOC3.out.imp id (fun h => by rw [h]; simp))
            have hbel := (HBW.out.alloc HBW.out.size (.cells #[.slice (some ⟨b, off + f, none⟩) (i + 1 - f) (c1 - f)] 22)).grown HG3.out (by have := HBW.out.size; simp; omega) (fun j hj => (HROW.out.lt j hj).1)
            have hlen : ((TF p q i).1 ++ [sg]).length = (TF p q i).1.length + 1 := by simp
            exact ⟨⟨i + 1, by omega, by simp, by rw [hTF2.out]; simp, ⟨⟨xs ++ [.slice (some ⟨b, off + f, none⟩) (i + 1 - f) (c1 - f)], by rw [hTF2.out, hlen]; exact HOUT.out, by rw [hTF2.out]; exact hp4⟩, hbel⟩⟩, by simp [intOf]; omega⟩
          · have hak : allK q sg k = false := by rw [HAL.out]; simpa using ha
            have hTF2 : Hid (TF p q (i + 1) = TF p q i) := Lib.hid (by rw [HTF.out, if_neg ha])
            clear ha HAL HTF
            rw [hak]
            clear hak
            go_wp2
            exact ⟨⟨i + 1, by omega, by simp, by rw [hTF2.out, ← HF.out], ⟨by rw [hTF2.out]; exact HT2.out.own, HT2.out.below⟩⟩, by simp [intOf]; omega⟩
        · have hkn : k < n2 := by omega
          have hk1 : (k : Int) < (n2 : Int) := by omega
          have hk0 : (0 : Int) ≤ (k : Int) := by omega
          have hkl : k < q.length := by rw [HQ.out]; exact hkn
          obtain ⟨b2, off2, rfl, hlt2, g2⟩ := rdi_get HB.out hkl
          have hst := allK_step (s := sg) hkl
          obtain ⟨x, hx⟩ : ∃ x, x = q.getD k 0 := ⟨_, rfl⟩
          rw [← hx] at g2 hst
          have hbw := HT.out.below
          have f2 : wr.cell? ⟨b2, off2 + k, none⟩ = some (.int .i64 x) := by rw [HW.out]; exact (bel_cell hbw hlt2).trans g2
          have HST := Lib.hid hst
          have HSW : Hid (RdI wr (some ⟨b, off + f, none⟩) sg) := Lib.hid (by have h := HSEG.out.later hbw; rw [HW.out]; exact h)
          clear g2 hst hx hbw
          by_cases hy : allK q sg k = true
          · have C := Lib.hid (fun V (hV : RdI V (some ⟨b, off + f, none⟩) sg) => has_q (some ⟨b, off + f, none⟩) (i + 1 - f) (c1 - f) sg x V HSL.out (by omega) hV)
            have HN : Hid (allK q sg (k + 1) = sg.contains x) := Lib.hid (by rw [HST.out, hy, Bool.true_and])
            rw [hy]
            clear hy
            go_wp2_with fail
            have hsum : IntKind.i64.wrap ((i : Int) + 1) = (i : Int) + 1 := IntWalk.i64_in _ (by omega)
            have hsu2 : ((i : Int) + 1).toNat = i + 1 := by omega
            have hs1 : (i : Int) + 1 ≤ (c1 : Int) := by omega
            have hs2 : (f : Int) ≤ (i : Int) + 1 := by omega
            have hs3 : ¬ (c1 = f) := by omega
            have hs0 : (0 : Int) ≤ (i : Int) + 1 := by omega
            go_quiet ((go_at_call 15; exact Calls.quiet_of_same (C.out _ (by exact HSW.out))))
            clear hsum hsu2 hs1 hs2 hs3 hs0
            go_wp2
            exact ⟨⟨k + 1, d + nq, by omega, by simp, by rw [HN.out]; simp, by rw [HW.out, World.drewN_drewN]⟩, by simp [intOf]; omega⟩
          · have hy' : allK q sg k = false := by simpa using hy
            have HN : Hid (allK q sg (k + 1) = false) := Lib.hid (by rw [HST.out, hy', Bool.false_and])
            rw [hy']
            clear hy hy'
            go_wp2_with fail
            go_quiet (fail)
            go_wp2
            exact ⟨⟨k + 1, d + nq, by omega, by simp, by rw [HN.out], by rw [HW.out, World.drewN_drewN]⟩, by simp [intOf]; omega⟩
end Go.Proofs.Ytdeligjggehdbaa
