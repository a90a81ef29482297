/- The program's turns. -/
import Derived.Test.YtdeligjggehdbaaA6
import Derived.Test.YtdeligjggehdbaaA3
namespace Go.Proofs.Ytdeligjggehdbaa
set_option linter.unusedSimpArgs false
open Go.RowKit Go.Maps
set_option linter.unusedVariables false

theorem info3 : (Try.prog.info? 3).map (fun i => (i.zero, i.size, i.bytes)) = some (some (.int .i64 0), 1, 8) := by kernel_rfl
theorem info22 : (Try.prog.info? 22).map (fun i => (i.zero, i.size, i.bytes)) = some (some (.slice none 0 0), 1, 24) := by kernel_rfl

def KE (q : List Int) (k : Nat) : Int → Prop := fun x => x ∈ q.take k
def KP (p q : List Int) (f i : Nat) : Int → Prop := fun x => x ∈ q ∧ x ∈ segF p f i
theorem KE_step {q : List Int} {k : Nat} (hk : k < q.length) (x : Int) : (x = q.getD k 0 ∨ KE q k x) ↔ KE q (k + 1) x := by
  unfold KE; rw [take_step hk]; simp only [List.mem_append, List.mem_singleton]; exact Or.comm
theorem KP_step {p q : List Int} {f i : Nat} (hi : i < p.length) (hf : f ≤ i) (hq : p.getD i 0 ∈ q) (x : Int) : (x = p.getD i 0 ∨ KP p q f i x) ↔ KP p q f (i + 1) x := by
  unfold KP; rw [seg_succ p f i hi hf]; simp only [List.mem_append, List.mem_singleton]
  constructor
  · rintro (h | h)
    · exact ⟨by rw [h]; exact hq, .inr h⟩
    · exact ⟨h.1, .inl h.2⟩
  · rintro ⟨h, h1 | h1⟩
    · exact .inr ⟨h, h1⟩
    · exact .inl h1

theorem KP_skip {p q : List Int} {f i : Nat} (hi : i < p.length) (hf : f ≤ i) (hq : p.getD i 0 ∉ q) (x : Int) : KP p q f i x ↔ KP p q f (i + 1) x := by
  unfold KP; rw [seg_succ p f i hi hf]; simp only [List.mem_append, List.mem_singleton]
  constructor
  · rintro ⟨h1, h2⟩; exact ⟨h1, .inl h2⟩
  · rintro ⟨h1, h2 | h2⟩
    · exact ⟨h1, h2⟩
    · exact absurd h1 (by rw [h2]; exact hq)
theorem MC.bound {D : DataW Unit} {K : Int → Prop} {m x c : Int} (h : MC D K m) (hm : 0 ≤ m) (hat : D.atKey (.int .i64 x) (.lit (.int .i64 0)) = .lit (.int .i64 c)) : 0 ≤ c ∧ c ≤ m := by
  have := h.2.2.2 x c hat
  by_cases k : K x
  · have := this.1 k; omega
  · have := this.2 k; omega
theorem all_iff {P E : DataW Unit} {p q : List Int} {f i : Nat} {m m' x : Int} (hx : x ∈ q) (hP : MC P (KP p q f i) m) (hE : MC E (· ∈ q) m') (tP : Maps.Tidy P) (tE : Maps.Tidy E) : Maps.size P = Maps.size E ↔ allIn q (segF p f i) = true := by
  rw [size_iff tP tE hP.1 hE.1 (fun y hy => (hE.2.2.1 y).2 ((hP.2.2.1 y).1 hy).1)]
  unfold allIn
  have hne : q.isEmpty = false := by cases q <;> simp_all
  rw [hne]
  simp only [Bool.not_false, Bool.true_and, List.all_eq_true, List.contains_iff_mem]
  constructor
  · intro h y hy
    exact ((hP.2.2.1 y).1 (h y ((hE.2.2.1 y).2 hy))).2
  · intro h y hy
    have := (hE.2.2.1 y).1 hy
    exact (hP.2.2.1 y).2 ⟨this, h y this⟩
theorem rdi_news {w : World} {b off : Nat} {l : List Int} (h : RdI w (some ⟨b, off, none⟩) l) : ∀ j u, (l.map (Value.int .i64))[j]? = some u → w.cell? ((⟨b, off, none⟩ : Addr).add j) = some u := by
  intro j u hu
  rcases h with h | ⟨b', off', e, hlt, hc⟩
  · rw [h] at hu; simp at hu
  · cases e
    have hadd : (⟨b, off, none⟩ : Addr).add j = ⟨b, off + j, none⟩ := by unfold Addr.add; split <;> simp_all
    rw [hadd]; exact hc j u hu
theorem one_ints (l : List Int) : ∀ u ∈ l.map (Value.int .i64), u.oneCell' = true := by
  intro u hu
  obtain ⟨x, _, rfl⟩ := List.mem_map.1 hu
  rfl
theorem row_ne {w : World} {base n : Nat} {e : TypeId} {size : Nat} {v : Value} {xs : List Value} (h : w.ownsRow (base + 2) e size v n xs) : v.ownBlock = none ∨ v.ownBlock ≠ some (base + 1) := by
  rcases hob : v.ownBlock with _ | ob
  · exact .inl rfl
  · right; have := (h.lt ob hob).1; simp; omega
theorem row_no (v : Value) : v.ownBlock = none ∨ v.ownBlock ≠ (Value.slice none 0 0).ownBlock := by
  rcases hob : v.ownBlock with _ | ob
  · exact .inl rfl
  · right; simp [Value.ownBlock]
theorem map_ne {w : World} {base n k : Nat} {e : TypeId} {size : Nat} {v : Value} {xs : List Value} (h : w.ownsRow base e size v n xs) (hk : k < base) : some k ≠ v.ownBlock := by
  intro hob; have := (h.lt k hob.symm).1; omega
/-- What is known ahead of a round. -/
structure TR (w wv : World) (p q : List Int) (n2 i : Nat) (vv : Value) : Prop where
  own : ∃ (E P : DataW Unit) (xs : List Value), wv.ownsMap Try.prog 3 (plainElem Try.prog 3) w.heap.size n2 E ∧ wv.ownsMap Try.prog 3 (plainElem Try.prog 3) (w.heap.size + 1) i P ∧ MC E (· ∈ q) n2 ∧ MC P (KP p q (TF p q i).2 i) i ∧
    wv.ownsRow (w.heap.size + 2) 22 1 vv (TF p q i).1.length xs ∧ Pcs wv (w.heap.size + 2) vv.ownBlock xs (TF p q i).1
  below : Below w.heap.size w wv
  size : w.heap.size + 2 ≤ wv.heap.size

/-- What turns are answered. -/
def TPost (w : World) (L : List (List Int)) (e : Ending) (w' : World) : Prop := ∃ v xs, e = .returned v ∧ w'.ownsRow (w.heap.size + 2) 22 1 v L.length xs ∧ Pcs w' (w.heap.size + 2) v.ownBlock xs L ∧ Below w.heap.size w w'
set_option maxRecDepth 100000 in
set_option maxHeartbeats 2000000 in
theorem turns_any (A1 A2 : Option Addr) (n1 c1 n2 c2 : Nat) (p q : List Int) (w : World) (hp : p.length = n1) (hq : q.length = n2) (h1 : n1 ≤ 1000000) (h2 : n2 ≤ 1000000) (hc : n1 ≤ c1) (hcm : c1 ≤ maxLen) (hA : RdI w A1 p) (hB : RdI w A2 q)
    (wp : ∀ x ∈ p, (Lit.int .i64 x).wf = true) (wq : ∀ x ∈ q, (Lit.int .i64 x).wf = true) :
    Calls Try.prog 11 #[.slice A1 n1 c1, .slice A2 n2 c2] w (TPost w (TF p q n1).1) := by
  unfold maxLen at hcm
  have HP := Lib.hid hp
  have HQ := Lib.hid hq
  have HA := Lib.hid hA
  have HB := Lib.hid hB
  have WP := Lib.hid wp
  have WQ := Lib.hid wq
  clear hp hq hA hB wp wq
  have hmm := @run_makeMap Try.prog
  have hown0 := Lib.hid ((World.ownsMap_made (H := Unit) w Try.prog 3 (plainElem Try.prog 3)).alloc (.map #[] 0))
  have hown1 := Lib.hid (World.ownsMap_made (H := Unit) (w.alloc (.map #[] 0)) Try.prog 3 (plainElem Try.prog 3))
  have hW0 := Lib.hid (((Below.refl w.heap.size w).alloc (Nat.le_refl _) (.map #[] 0)).alloc (by simp) (.map #[] 0))
  obtain ⟨i0, hI0, hI1, hI2, hI3⟩ := info_parts info3
  obtain ⟨j0, hj0, hj1, hj2, hj3⟩ := info_parts info22
  go_enter Try.func11, Try.ntmps11
  go_wp2
  go_loopw [17] (fun iv wr => ∃ (k : Nat) (E : DataW Unit), k ≤ n2 ∧ iv = .int .i64 k ∧ wr.ownsMap Try.prog 3 (plainElem Try.prog 3) w.heap.size k E ∧ wr.ownsMap (H := Unit) Try.prog 3 (plainElem Try.prog 3) (w.heap.size + 1) 0 (.map []) ∧ MC E (KE q k) k ∧ Below w.heap.size w wr ∧ w.heap.size + 2 ≤ wr.heap.size) (fun i _ => n2 - (intOf i).toNat)
  case atStart => exact ⟨0, _, by omega, rfl, hown0.out, by simpa using hown1.out, MC.empty (fun x h => by simp [KE] at h), hW0.out, by simp⟩
  case round =>
    obtain ⟨k, E, hk, rfl, hE, hP, hmc, hbw, hsz⟩ := hrel
    have HMC := Lib.hid hmc
    have HBW := Lib.hid hbw
    have HP0 := Lib.hid hP
    have HSZ := Lib.hid hsz
    clear hmc hbw hP hsz
    by_cases h8 : k = n2
    · have hkn : ¬ (k : Int) < (n2 : Int) := by omega
      have HT : Hid (TR w wr p q n2 0 (.slice none 0 0)) := Lib.hid ⟨⟨E, .map [], [], hE.mono (by omega), HP0.out, HMC.out.more (fun x => by unfold KE; rw [h8, ← HQ.out, List.take_length]) (by omega), MC.empty (fun x h => by simp [KP, segF] at h), World.ownsRow_nil _ _ _ _, Pcs.nil _ _ _⟩, HBW.out, HSZ.out⟩
      clear HMC HP0 hE HBW HSZ
      go_wp2
      go_loopw [9, 10, 28] (fun vv bv iv wv => ∃ (i : Nat), i ≤ n1 ∧ iv = .int .i64 i ∧ bv = .int .i64 ((TF p q i).2 : Nat) ∧ TR w wv p q n2 i vv) (fun _ _ i _ => n1 - (intOf i).toNat)
      case atStart => exact ⟨0, by omega, rfl, rfl, HT.out⟩
      case round =>
        clear HT
        obtain ⟨i, hi, rfl, rfl, hT⟩ := hrel
        have HT := Lib.hid hT
        clear hT
        by_cases h9 : i = n1
        · have hin : ¬ (i : Int) < (n1 : Int) := by omega
          have HI := Lib.hid h9
          clear h9
          obtain ⟨⟨E, P, xs, hE, hP, hmE, hmP, hrow, hpcs⟩, hbw, hsz⟩ := HT.out
          clear HT hE hP hmE hmP
          rw [HI.out] at hrow hpcs
          have HROW := Lib.hid hrow
          have HPCS := Lib.hid hpcs
          have HBW := Lib.hid hbw
          clear hrow hpcs hbw hsz
          go_wp2
          exact bodyPost_ret (v := u9) (by simp [results, Try.results11, go_sem]) rfl ⟨u9, xs, rfl, HROW.out, HPCS.out, HBW.out⟩
        · have hin : i < n1 := by omega
          have hi1 : (i : Int) < (n1 : Int) := by omega
          have hi0 : (0 : Int) ≤ (i : Int) := by omega
          have hil : i < p.length := by rw [HP.out]; exact hin
          obtain ⟨⟨E, P, xs, hE, hP, hmE, hmP, hrow, hpcs⟩, hbw, hsz⟩ := HT.out
          clear HT
          obtain ⟨b, off, rfl, hlt, g⟩ := rdi_get (HA.out.later hbw) hil
          have hwf := WP.out _ (getD_mem hil)
          have hskip := TF_skip p q i hil
          have hle := (TF_le p q i).1
          have hstep := fun h => KP_step (p := p) (q := q) (f := (TF p q i).2) hil hle h
          have hks := fun h => KP_skip (p := p) (q := q) (f := (TF p q i).2) hil hle h
          have hTF : TF p q (i + 1) = if allIn q (segF p (TF p q i).2 (i + 1)) then ((TF p q i).1 ++ [segF p (TF p q i).2 (i + 1)], i + 1) else TF p q i := rfl
          obtain ⟨x, hx⟩ : ∃ x, x = p.getD i 0 := ⟨_, rfl⟩
          rw [← hx] at g hwf hskip hstep hks
          have HKS := Lib.hid hks
          have HSTEP := Lib.hid hstep
          have HSKIP := Lib.hid hskip
          have HTF := Lib.hid hTF
          have hkey := Lib.hid (keyOf_int_mk (P := Try.prog) Try.underlying3 hwf)
          have HME := Lib.hid hmE
          have HMP := Lib.hid hmP
          have HROW := Lib.hid hrow
          have HPCS := Lib.hid hpcs
          have HBW := Lib.hid hbw
          have HSZ := Lib.hid hsz
          clear hstep hks hskip hTF hx hwf hmE hmP hrow hpcs hbw hsz
          obtain ⟨b0, off0, hA0, hlt0, hgg⟩ := rdi_get HA.out hil
          cases hA0
          clear hgg
          have HSL := Lib.hid (seg_len p (TF p q i).2 (i + 1) (by omega) (by omega))
          have HSEG : Hid (∀ W, wr.grownBy W (some (w.heap.size + 1)) → RdI W (some ⟨b, off + (TF p q i).2, none⟩) (segF p (TF p q i).2 (i + 1))) := Lib.hid (fun W hW => rdi_kept (rdi_sub (HA.out.later HBW.out) (TF p q i).2 (i + 1 - (TF p q i).2)) hW (by simp; omega))
          have hLn := (TF_le p q i).2
          by_cases hq : x ∈ q
          · by_cases ha : allIn q (segF p (TF p q i).2 (i + 1)) = true
            · have HA0 := Lib.hid ha
              clear ha
              go_wp2_with (first
                | (at_lookup; refine wpList_lookup_own_int _ rfl (.tmp 33) (.tmp 34) 31 rfl 3 3 .i64 law3 Try.underlying31 Try.underlying3 (zero3 _) w.heap.size _ E rfl hE _ _ rfl hkey.out ?_; intro c hat hwc; have hcc : ¬ c = 0 := (by have := (HME.out.2.2.2 x c hat).1 hq; omega); have hcb : (c == 0) = false := (by simpa using hcc); clear hat hwc)
                | (at_lookup; refine wpList_lookup_own_int _ rfl (.tmp 37) (.tmp 38) 31 rfl 3 3 .i64 law3 Try.underlying31 Try.underlying3 (zero3 _) (w.heap.size + 1) _ P rfl hP _ _ rfl hkey.out ?_; intro c2 hat2 hwc2; have hc0 : 0 ≤ c2 := (HMP.out.bound (by omega) hat2).1; have hc1 : c2 ≤ i := (HMP.out.bound (by omega) hat2).2; clear hat2 hwc2)
                | (at_mapUpdate; refine wpList_mapUpdate_own _ rfl _ _ _ 31 rfl 3 3 law3 Try.underlying31 _ (w.heap.size + 1) _ P rfl hP (by unfold maxLen; omega) _ _ _ rfl rfl hkey.out _ [] (plainElem_int Try.underlying3 (WalkArith.wf_i64 (by omega))) ?_; intro w1 hown1 hgrow1; have hE1 := hE.kept hgrow1 (by simp); have HMP2 := Lib.hid ((HMP.out.put (x := x) (c := c2 + 1) (by omega) (by omega) (by omega)).more (HSTEP.out hq) (m' := ((i + 1 : Nat) : Int)) (by omega)); generalize P.put (.int .i64 x) (.lit (.int .i64 (c2 + 1))) = P2 at *; have hiff := all_iff hq HMP2.out HME.out (hown1.tidy law3) (hE1.tidy law3); have hse : ((Maps.size P2 : Int) == (Maps.size E : Int)) = true := (by rw [beq_iff_eq]; have := hiff.2 HA0.out; omega); clear hiff hE hP hcc hcb hc0 hc1; have HG1 := Lib.hid hgrow1; have HSZ1 := Lib.hid (Nat.le_trans HSZ.out hgrow1.size); clear hgrow1)
                | (at_len; refine wpList_len_own _ rfl (.tmp 41) 31 rfl 3 3 Try.underlying31 _ (w.heap.size + 1) _ P2 rfl hown1 ?_)
                | (at_len; refine wpList_len_own _ rfl (.tmp 43) 31 rfl 3 3 Try.underlying31 _ w.heap.size _ E rfl hE1 ?_)
                | (at_builtin; refine wpList_append_lies _ rfl (.const (.slice none 0 0)) (.tmp 51) 22 rfl (w.heap.size + 2) 3 i0 (.int .i64 0) 1 8 Try.underlying22 hI0 hI1 hI2 hI3 rfl (by decide) (.slice none 0 0) 0 [] rfl (World.ownsRow_nil _ _ _ _) ⟨b, off + (TF p q i).2, none⟩ (i + 1 - (TF p q i).2) (c1 - (TF p q i).2) ((segF p (TF p q i).2 (i + 1)).map (Value.int .i64)) rfl (by rw [List.length_map, HSL.out, Nat.mul_one]) (rdi_news (HSEG.out w1 HG1.out)) (one_ints _) (by omega) (by unfold maxLen; omega) (by omega) (Nat.le_trans HSZ.out HG1.out.size) w1.heap.size rfl ?_; intro g1 cap1 w2 hin hg2 hloc hlt2; simp only [Nat.zero_add, List.nil_append] at hin; have HIN := Lib.hid hin; have HG2 := Lib.hid hg2; have HLOC := Lib.hid hloc; have HLT2 := Lib.hid hlt2; have HSZ2 := Lib.hid (Nat.le_trans HSZ.out (Nat.le_trans HG1.out.size HG2.out.size)); clear hin hg2 hloc hlt2)
                | (at_builtin; refine wpList_append_lies _ rfl (.tmp 46) (.tmp 53) 27 rfl (w.heap.size + 2) 22 j0 (.slice none 0 0) 1 24 Try.underlying27 hj0 hj1 hj2 hj3 rfl (by decide) u9 (TF p q i).1.length xs rfl (((HROW.out.kept HG1.out (row_ne HROW.out)).kept HG2.out (row_no _)).alloc _) ⟨w2.heap.size, 0, none⟩ 1 1 [.slice (some ⟨g1, 0, none⟩) (i + 1 - (TF p q i).2) cap1] rfl rfl (World.news_of_block (cs := #[.slice (some ⟨g1, 0, none⟩) (i + 1 - (TF p q i).2) cap1]) (t := 22) (fr := (0, 0)) (heap_alloc_new w2 _)) (by simp [Value.oneCell']) (by decide) (by unfold maxLen; omega) (by omega) (by have := HSZ2.out; simp; omega) (w2.heap.size + 1) (by simp) ?_; intro g2 cap2 w3 hout hg3 hloc3 hlt3; have HOUT := Lib.hid hout; have HG3 := Lib.hid hg3; have HLOC3 := Lib.hid hloc3; have HLT3 := Lib.hid hlt3; clear hout hg3 hloc3 hlt3)
                | (refine wpList_clear_own _ rfl (.tmp 57) rfl (w.heap.size + 1) _ P2 rfl ((((hown1.kept HG2.out (by simp [Value.ownBlock])).alloc _).kept HG3.out (map_ne HROW.out (Nat.lt_succ_self _)))) ?_; intro w4 hclr hg4)
                | fail)
              have hTF2 : TF p q (i + 1) = ((TF p q i).1 ++ [segF p (TF p q i).2 (i + 1)], i + 1) := by rw [HTF.out, if_pos HA0.out]
              have hg1 : g1 = w1.heap.size := HLOC.out.resolve_left (by simp [Value.ownBlock])
              have hcap := own_cap HIN.out (by omega)
              have hb0 : ∀ b, (some (w.heap.size + 1) = some b → b < w.heap.size + 2 ∨ wr.heap.size ≤ b) := fun b hb => by cases hb; omega
              have hp1 := HPCS.out.kept' HG1.out hb0
              have hp2 := hp1.kept' HG2.out (fun b hb => by simp [Value.ownBlock] at hb)
              have hsz1 := HSZ1.out
              have hnr : some g1 ≠ u9.ownBlock ∧ w.heap.size + 2 ≤ g1 := ⟨fun hob => by have := (HROW.out.lt g1 hob.symm).2; have := HG1.out.size; omega, by omega⟩
              have hp3 := hp2.snoc (b := g1) (off := 0) (c := cap1) (s := segF p (TF p q i).2 (i + 1)) hnr HLT2.out (Rd.of_own HIN.out (by decide)) (by rw [HSL.out]; exact hcap.1) hcap.2
              have hp4 := (hp3.kept' (World.grownBy_alloc w2 (.cells #[.slice (some ⟨g1, 0, none⟩) (i + 1 - (TF p q i).2) cap1] 22) none) (fun b hb => by cases hb)).app HG3.out (HLOC3.out.imp id (fun h => by rw [h]; simp))
              have hp5 := hp4.kept' hg4 (fun b hb => by cases hb; left; omega)
              have hbel := (((HBW.out.grown HG1.out HBW.out.size (fun j hj => by cases hj; omega)).grown HG2.out (by have := HBW.out.size; have := HG1.out.size; omega) (fun j hj => by simp [Value.ownBlock] at hj)).alloc (by have := HBW.out.size; have := HG1.out.size; have := HG2.out.size; omega) (.cells #[.slice (some ⟨g1, 0, none⟩) (i + 1 - (TF p q i).2) cap1] 22)).grown HG3.out (by have := HSZ2.out; simp; omega) (fun j hj => by have := (HROW.out.lt j hj).1; omega)
              have hbel2 := hbel.grown hg4 (by have := HSZ2.out; have := HG3.out.size; simp at this; omega) (fun j hj => by cases hj; omega)
              have hE4 := (((hE1.kept HG2.out (by simp [Value.ownBlock])).alloc (.cells #[.slice (some ⟨g1, 0, none⟩) (i + 1 - (TF p q i).2) cap1] 22)).kept HG3.out (map_ne HROW.out (by omega))).kept hg4 (by simp)
              have hr4 := HOUT.out.kept hg4 (row_ne HOUT.out)
              have hlen : ((TF p q i).1 ++ [segF p (TF p q i).2 (i + 1)]).length = (TF p q i).1.length + 1 := by simp
              refine ⟨⟨i + 1, by omega, by simp, by rw [hTF2]; simp, ⟨⟨E, .map [], xs ++ [.slice (some ⟨g1, 0, none⟩) (i + 1 - (TF p q i).2) cap1], hE4, hclr.mono (by omega), HME.out, MC.empty (fun y hy => by rw [hTF2] at hy; simp [KP, segF] at hy), by rw [hTF2, hlen]; exact hr4, by rw [hTF2]; rw [HSL.out] at hp5; exact hp5⟩, hbel2, ?_⟩⟩, by simp [intOf]; omega⟩
              have := HSZ2.out; have := HG3.out.size; have := hg4.size; simp at *; omega
            · have HA0 := Lib.hid ha
              have hTF2 : Hid (TF p q (i + 1) = TF p q i) := Lib.hid (by rw [HTF.out, if_neg ha])
              clear ha
              go_wp2_with (first
                | (at_lookup; refine wpList_lookup_own_int _ rfl (.tmp 33) (.tmp 34) 31 rfl 3 3 .i64 law3 Try.underlying31 Try.underlying3 (zero3 _) w.heap.size _ E rfl hE _ _ rfl hkey.out ?_; intro c hat hwc; have hcc : ¬ c = 0 := (by have := (HME.out.2.2.2 x c hat).1 hq; omega); have hcb : (c == 0) = false := (by simpa using hcc); clear hat hwc)
                | (at_lookup; refine wpList_lookup_own_int _ rfl (.tmp 37) (.tmp 38) 31 rfl 3 3 .i64 law3 Try.underlying31 Try.underlying3 (zero3 _) (w.heap.size + 1) _ P rfl hP _ _ rfl hkey.out ?_; intro c2 hat2 hwc2; have hc0 : 0 ≤ c2 := (HMP.out.bound (by omega) hat2).1; have hc1 : c2 ≤ i := (HMP.out.bound (by omega) hat2).2; clear hat2 hwc2)
                | (at_mapUpdate; refine wpList_mapUpdate_own _ rfl _ _ _ 31 rfl 3 3 law3 Try.underlying31 _ (w.heap.size + 1) _ P rfl hP (by unfold maxLen; omega) _ _ _ rfl rfl hkey.out _ [] (plainElem_int Try.underlying3 (WalkArith.wf_i64 (by omega))) ?_; intro w1 hown1 hgrow1; have hE1 := hE.kept hgrow1 (by simp); have HMP2 := Lib.hid ((HMP.out.put (x := x) (c := c2 + 1) (by omega) (by omega) (by omega)).more (HSTEP.out hq) (m' := ((i + 1 : Nat) : Int)) (by omega)); generalize P.put (.int .i64 x) (.lit (.int .i64 (c2 + 1))) = P2 at *; have hiff := all_iff hq HMP2.out HME.out (hown1.tidy law3) (hE1.tidy law3); have hse : ((Maps.size P2 : Int) == (Maps.size E : Int)) = false := (by rw [beq_eq_false_iff_ne]; intro h; exact HA0.out (hiff.1 (by omega))); clear hiff hE hP hcc hcb hc0 hc1; have HG1 := Lib.hid hgrow1; have HSZ1 := Lib.hid (Nat.le_trans HSZ.out hgrow1.size); clear hgrow1)
                | (at_len; refine wpList_len_own _ rfl (.tmp 41) 31 rfl 3 3 Try.underlying31 _ (w.heap.size + 1) _ P2 rfl hown1 ?_)
                | (at_len; refine wpList_len_own _ rfl (.tmp 43) 31 rfl 3 3 Try.underlying31 _ w.heap.size _ E rfl hE1 ?_)
                | fail)
              have hrow1 := HROW.out.kept HG1.out (row_ne HROW.out)
              have hpcs1 := HPCS.out.kept' HG1.out (fun b hb => by cases hb; omega)
              exact ⟨⟨i + 1, by omega, by simp, by rw [hTF2.out], ⟨⟨E, P2, xs, hE1, hown1, HME.out, by rw [hTF2.out]; exact HMP2.out, by rw [hTF2.out]; exact hrow1, by rw [hTF2.out]; exact hpcs1⟩, HBW.out.grown HG1.out HBW.out.size (fun j hj => by cases hj; omega), Nat.le_trans HSZ.out HG1.out.size⟩⟩, by simp [intOf]; omega⟩
          · go_wp2_with (first
              | (at_lookup; refine wpList_lookup_own_int _ rfl _ _ 31 rfl 3 3 .i64 law3 Try.underlying31 Try.underlying3 (zero3 _) w.heap.size _ E rfl hE _ _ rfl hkey.out ?_; intro c hat hwc; have hcc : c = 0 := (HME.out.2.2.2 x c hat).2 hq; subst hcc; clear hat hwc)
              | fail)
            exact ⟨⟨i + 1, by omega, by simp, by rw [HSKIP.out hq], ⟨⟨E, P, xs, hE, hP.mono (by omega), HME.out, HMP.out.more (fun y => by rw [HSKIP.out hq]; exact HKS.out hq y) (by omega), by rw [HSKIP.out hq]; exact HROW.out, by rw [HSKIP.out hq]; exact HPCS.out⟩, HBW.out, HSZ.out⟩⟩, by simp [intOf]; omega⟩
    · have hkn : k < n2 := by omega
      have hk1 : (k : Int) < (n2 : Int) := by omega
      have hk0 : (0 : Int) ≤ (k : Int) := by omega
      have hkl : k < q.length := by rw [HQ.out]; exact hkn
      obtain ⟨b, off, rfl, hlt, g⟩ := rdi_get (HB.out.later HBW.out) hkl
      have hst := KE_step hkl
      have hwf := WQ.out _ (getD_mem hkl)
      obtain ⟨x, hx⟩ : ∃ x, x = q.getD k 0 := ⟨_, rfl⟩
      rw [← hx] at g hst hwf
      have HST := Lib.hid hst
      have hkey := Lib.hid (keyOf_int_mk (P := Try.prog) Try.underlying3 hwf)
      clear hst hx hwf
      go_wp2_with (first
        | (at_lookup; refine wpList_lookup_own_int _ rfl _ _ 31 rfl 3 3 .i64 law3 Try.underlying31 Try.underlying3 (zero3 _) w.heap.size k E rfl hE _ _ rfl hkey.out ?_; intro c hat hwc; have hc0 : 0 ≤ c := (HMC.out.bound (by omega) hat).1; have hc1 : c ≤ k := (HMC.out.bound (by omega) hat).2; clear hat hwc)
        | (at_mapUpdate; refine wpList_mapUpdate_own _ rfl _ _ _ 31 rfl 3 3 law3 Try.underlying31 _ w.heap.size k E rfl hE (by unfold maxLen; omega) _ _ _ rfl rfl hkey.out _ [] (plainElem_int Try.underlying3 (WalkArith.wf_i64 (by omega))) ?_; intro w1 hown1 hgrow1)
        | fail)
      exact ⟨⟨k + 1, _, by omega, by simp, hown1, HP0.out.kept hgrow1 (by simp), (HMC.out.put (by omega) (by omega) (by omega)).more HST.out (by omega), HBW.out.grown hgrow1 HBW.out.size (fun j hj => by cases hj; exact Nat.le_refl _), Nat.le_trans HSZ.out hgrow1.size⟩, by simp [intOf]; omega⟩
end Go.Proofs.Ytdeligjggehdbaa
