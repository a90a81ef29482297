/- Texts of the proof, one behind the other. -/
import Derived.Test.YtilnpeekajnlhaaEk14
import Derived.Test.YtilnpeekajnlhaaEk03
import Derived.Test.YtilnpeekajnlhaaEk09
import Derived.Test.YtilnpeekajnlhaaEk12
import Derived.Test.YtilnpeekajnlhaaEk08
import Derived.Test.YtilnpeekajnlhaaEk06
import Derived.Test.YtilnpeekajnlhaaEk02
import Derived.Test.YtilnpeekajnlhaaEk07
import Derived.Test.YtilnpeekajnlhaaEk10
import Derived.Deep.RegionHeld3
set_option linter.unusedVariables false
set_option linter.unusedSimpArgs false
namespace Go.Proofs.Ytilnpeekajnlhaa
open Go.RowKit Go.Maps Go.Shelf
attribute [local go_sem] Oper.semAt_some
/-- Is a number of a node's, and does none before it say the same? -/
def kidB (l : List Int) (x : Int) : Bool := decide (1 ≤ x) && (decide (x ≤ 4096) && !(l.contains x))
def kidsK (l : List Int) : Nat → Bool
  | 0 => true
  | j + 1 => kidsK l j && (match l[j]? with | some x => kidB (l.take j) x | none => true)
def kidsB (l : List Int) : Bool := kidsK l l.length
theorem kids_less {l : List Int} {j : Nat} (h : kidsK l j = false) : ∀ k, j ≤ k → kidsK l k = false := by
  intro k hk
  induction k with
  | zero => have : j = 0 := by omega
            subst this; exact h
  | succ k ih =>
    by_cases e : j = k + 1
    · rw [← e]; exact h
    · show (kidsK l k && _) = false
      rw [ih (by omega)]; rfl
/-- How often a number was seen. -/
def seenI (l : List Int) (x : Int) : Int := if l.contains x then 1 else 0
theorem ei_at {w : World} {A : Option Addr} {xs : List Int} (h : EI.Rd w A xs) {i : Nat} {x : Int} (hi : xs[i]? = some x) : ∃ b off, A = some ⟨b, off, none⟩ ∧ b < w.heap.size ∧ w.cell? ⟨b, off + i, none⟩ = some (.int .i64 x) := by
  obtain ⟨b, off, e, h1, h2⟩ := h.get hi
  exact ⟨b, off, e, h1, by simpa [EI] using h2 0 _ rfl⟩
set_option maxRecDepth 100000 in
set_option maxHeartbeats 4000000 in
theorem rightKids_any (A : Option Addr) (n c : Nat) (xs : List Int) (w : World) (hl : xs.length = n) (hn : n ≤ 1000) (hA : EI.Rd w A xs) (hx : ∀ x ∈ xs, (Lit.int .i64 x).wf = true) :
    Calls Try.prog 44 #[.slice A n c] w fun e w' => e = .returned (.bool (kidsB xs)) ∧ Below w.heap.size w w' := by
  have HL := Lib.hid hl
  have HA := Lib.hid hA
  have HX := Lib.hid hx
  have B0 := Lib.hid (alb w (.map #[] 0))
  have I0 := Lib.hid (IM.made w)
  clear hl hA hx
  have hmm := @run_makeMap Try.prog
  go_enter Try.func44, Try.ntmps44
  go_wp2
  go_loopw [5, 9] (fun kv iv wr => ∃ k : Nat, k ≤ n ∧ iv = .int .i64 k ∧ kidsK xs k = true ∧ (∃ S, IM wr w.heap.size k S ∧ ∀ x, S x = seenI (xs.take k) x) ∧ Below w.heap.size w wr) (fun _ i _ => n - (intOf i).toNat)
  case atStart => exact ⟨0, Nat.zero_le _, rfl, rfl, ⟨_, I0.out, fun x => by simp [seenI]⟩, B0.out⟩
  case round =>
    obtain ⟨k, hk, rfl, hkk, ⟨S, hm, hs⟩, hb⟩ := hrel
    have HB := Lib.hid hb
    have HM := Lib.hid hm
    have HS := Lib.hid hs
    have HK := Lib.hid hkk
    clear hb hm hs hkk hmm I0 B0
    by_cases hkn : k < n
    · have hk1 : (k : Int) < (n : Int) := by omega
      have hk0 : (0 : Int) ≤ (k : Int) := by omega
      have hk9 : (k : Int) ≤ 1000 := by omega
      obtain ⟨x, hx⟩ : ∃ x, xs[k]? = some x := ⟨_, List.getElem?_eq_getElem (by rw [HL.out]; exact hkn)⟩
      have HXK := Lib.hid hx
      have XW := Lib.hid (HX.out x (List.mem_of_getElem? hx))
      obtain ⟨b, off, rfl, hlt, c0⟩ := ei_at (HA.out.later HB.out) hx
      obtain ⟨v, hv⟩ : ∃ v, v = S x := ⟨_, rfl⟩
      have HV := Lib.hid hv.symm
      have h01 : v = 0 ∨ v = 1 := by rw [hv, HS.out]; unfold seenI; split <;> simp
      have hvs := HS.out x
      rw [← hv] at hvs
      have NX : Hid (∀ B, kidB (xs.take k) x = B → kidsK xs (k + 1) = B) := Lib.hid (fun B h => by show (kidsK xs k && _) = B; rw [HK.out, HXK.out]; simpa using h)
      have SX : Hid (∀ y, upd S x (v + 1) y = if y = x then v + 1 else seenI (xs.take k) y) := Lib.hid (fun y => by unfold upd; split <;> simp_all [HS.out])
      clear hx hlt hv
      by_cases hx1 : x < 1
      · have FB := Lib.hid (show kidsB xs = false from kids_less (NX.out false (by unfold kidB; rw [decide_eq_false (by omega)]; rfl)) _ (by rw [HL.out]; omega))
        clear hvs
        rcases h01 with rfl | rfl <;>
        · go_wp2_with (first
            | (at_lookup; refine im_look _ rfl (.tmp 13) (.tmp 14) rfl HM.out rfl x rfl XW.out _ HV.out ?_)
            | (at_mapUpdate; refine im_put _ rfl (.tmp 13) (.tmp 14) (.tmp 16) rfl HM.out (by unfold maxLen; omega) rfl x _ rfl rfl XW.out (by decide) ?_; intro w3 hm3 hg3; have M3 := Lib.hid hm3; have B3 := Lib.hid (HB.out.trans ((chg_of_grown hg3).below (fun g e => by injection e with e; omega) HB.out.size)); clear hm3 hg3)
            | fail)
          go_ret
          exact ⟨by rw [FB.out]; rfl, B3.out⟩
      · by_cases hx2 : 4096 < x
        · have hx3 : x > 4096 := hx2
          have FB := Lib.hid (show kidsB xs = false from kids_less (NX.out false (by unfold kidB; rw [decide_eq_false (p := x ≤ 4096) (by omega)]; simp)) _ (by rw [HL.out]; omega))
          clear hvs
          rcases h01 with rfl | rfl <;>
          · go_wp2_with (first
              | (at_lookup; refine im_look _ rfl (.tmp 13) (.tmp 14) rfl HM.out rfl x rfl XW.out _ HV.out ?_)
              | (at_mapUpdate; refine im_put _ rfl (.tmp 13) (.tmp 14) (.tmp 16) rfl HM.out (by unfold maxLen; omega) rfl x _ rfl rfl XW.out (by decide) ?_; intro w3 hm3 hg3; have M3 := Lib.hid hm3; have B3 := Lib.hid (HB.out.trans ((chg_of_grown hg3).below (fun g e => by injection e with e; omega) HB.out.size)); clear hm3 hg3)
              | fail)
            go_ret
            exact ⟨by rw [FB.out]; rfl, B3.out⟩
        · have hx3 : ¬ x > 4096 := hx2
          rcases h01 with rfl | rfl
          · have hc : (xs.take k).contains x = false := by
              unfold seenI at hvs
              cases h : (xs.take k).contains x
              · rfl
              · rw [h] at hvs; simp at hvs
            have FB := Lib.hid (NX.out true (by unfold kidB; rw [decide_eq_true (p := 1 ≤ x) (by omega), decide_eq_true (p := x ≤ 4096) (by omega), hc]; rfl))
            have HC := Lib.hid hc
            clear hvs hc
            go_wp2_with (first
              | (at_lookup; refine im_look _ rfl (.tmp 13) (.tmp 14) rfl HM.out rfl x rfl XW.out _ HV.out ?_)
              | (at_mapUpdate; refine im_put _ rfl (.tmp 13) (.tmp 14) (.tmp 16) rfl HM.out (by unfold maxLen; omega) rfl x _ rfl rfl XW.out (by decide) ?_; intro w3 hm3 hg3; have M3 := Lib.hid hm3; have B3 := Lib.hid (HB.out.trans ((chg_of_grown hg3).below (fun g e => by injection e with e; omega) HB.out.size)); clear hm3 hg3)
              | (at_lookup; refine im_glook _ (by rfl) (.tmp 24) (.tmp 25) rfl M3.out rfl x rfl XW.out 1 (by simp [upd]) ?_)
              | fail)
            refine ⟨⟨k + 1, by omega, by simp, FB.out, ⟨_, M3.out, fun y => ?_⟩, B3.out⟩, by simp [intOf]; omega⟩
            have q := SX.out y
            rw [show (1 : Int) = 0 + 1 from rfl]
            rw [q]
            have e := List.take_add_one (l := xs) (i := k)
            rw [HXK.out] at e
            rw [e]
            unfold seenI
            by_cases hy : y = x
            · subst hy; simp
            · rw [if_neg hy]; simp [hy]
          · have hc : (xs.take k).contains x = true := by
              unfold seenI at hvs
              cases h : (xs.take k).contains x
              · rw [h] at hvs; simp at hvs
              · rfl
            have FB := Lib.hid (show kidsB xs = false from kids_less (NX.out false (by unfold kidB; rw [hc]; simp)) _ (by rw [HL.out]; omega))
            clear hvs hc
            go_wp2_with (first
              | (at_lookup; refine im_look _ rfl (.tmp 13) (.tmp 14) rfl HM.out rfl x rfl XW.out _ HV.out ?_)
              | (at_mapUpdate; refine im_put _ rfl (.tmp 13) (.tmp 14) (.tmp 16) rfl HM.out (by unfold maxLen; omega) rfl x _ rfl rfl XW.out (by decide) ?_; intro w3 hm3 hg3; have M3 := Lib.hid hm3; have B3 := Lib.hid (HB.out.trans ((chg_of_grown hg3).below (fun g e => by injection e with e; omega) HB.out.size)); clear hm3 hg3)
              | (at_lookup; refine im_glook _ (by rfl) (.tmp 24) (.tmp 25) rfl M3.out rfl x rfl XW.out 2 (by simp [upd]) ?_)
              | fail)
            go_ret
            exact ⟨by rw [FB.out]; rfl, B3.out⟩
    · have hk1 : ¬ (k : Int) < (n : Int) := by omega
      have e : k = n := by omega
      have FB := Lib.hid (show kidsB xs = true by unfold kidsB; rw [HL.out, ← e]; exact HK.out)
      go_wp2
      go_ret
      exact ⟨by rw [FB.out]; rfl, HB.out⟩
end Go.Proofs.Ytilnpeekajnlhaa
namespace Go.Proofs.Ytilnpeekajnlhaa
open Go.RowKit Go.Maps
/-- A node that is right for a range. -/
structure RN (kd : Int) (n k b : Nat) (ps : List ByteArray) (ks : List Int) (ms : List MG) (f t : ByteArray) : Prop where
  hkd : kd = 2
  hb : b = 0
  hk : k = n + 1
  hps : Pv.rightB ps f t = true
  hks : kidsB ks = true
  hms : rightB ms = true
  hwi : ms.all (wiR f t) = true
set_option maxRecDepth 100000 in
set_option maxHeartbeats 8000000 in
theorem iright_true (kd : Int) (P J M B : Option Addr) (n pc k kc m mc b bc : Nat) (ps : List ByteArray) (ks : List Int) (ms : List MG) (f t : ByteArray) (w : World) (hl : ps.length = n) (hn : n ≤ 100) (hP : Pv.RdS w P ps) (hkl : ks.length = k) (hJ : EI.Rd w J ks) (hx : ∀ x ∈ ks, (Lit.int .i64 x).wf = true) (hm : ms.length = m) (hm1 : m ≤ 1000) (hM : EG.Rd w M ms) (ho : OkA ms) (hr : RN kd n k b ps ks ms f t) :
    Calls Try.prog 16 #[NV kd (.slice P n pc) (.slice J k kc) (.slice M m mc) (.slice B b bc), .agg #[.string f, .string t]] w fun e w' => e = .returned (.bool true) ∧ Below w.heap.size w w' := by
  have A1 := Lib.hid (fun W (h : Below w.heap.size w W) => Pv.right_any P ps n pc f t W hl (by omega) (Rd.later hP h))
  rw [hr.hps] at A1
  have A2 := Lib.hid (fun W (h : Below w.heap.size w W) => rightKids_any J k kc ks W hkl (by have := hr.hk; omega) (hJ.later h) hx)
  rw [hr.hks] at A2
  have A3 := Lib.hid (fun W (h : Below w.heap.size w W) => right_any M m mc ms W hm hm1 (hM.later h) ho)
  rw [hr.hms] at A3
  have A4 := Lib.hid (fun W (h : Below w.heap.size w W) => withinA_any f t M m mc ms W hm hm1 (hM.later h) ho)
  rw [hr.hwi] at A4
  obtain ⟨rfl, rfl, hk, -, -, -, -⟩ := hr
  have hw : IntKind.i64.wrap ((k : Int) - 1) = (n : Int) := by rw [IntWalk.i64_in _ (by omega)]; omega
  clear hl hP hkl hJ hx hm hM ho hk
  have y1 := two_new w (NO 2 (.slice P n pc) (.slice J k kc) (.slice M m mc) (.slice B 0 bc)) (rgc f t)
  have H0 := Lib.hid (bel_alloc (alb w (NO 2 (.slice P n pc) (.slice J k kc) (.slice M m mc) (.slice B 0 bc))) (rgc f t))
  have Z := Lib.hid y1.1
  have Y := Lib.hid y1.2
  clear y1
  obtain ⟨c0, c1, c2, c3, c4⟩ := cells5 Z.out
  obtain ⟨d0, d1, -, -⟩ := has_two Y.out
  go_enter Try.func16, Try.ntmps16
  go_wp2_with (first
    | (go_at_call 43; ((with_reducible refine (A1.out _ H0.out).mono ?_); rintro e w1 ⟨rfl, b1⟩; replace H0 := Lib.hid (bel_trans H0.out b1); replace Z := Lib.hid (keep_bel b1 Z.out); replace Y := Lib.hid (keep_bel b1 Y.out); clear b1 c0 c1 c2 c3 c4 d0 d1; obtain ⟨c0, c1, c2, c3, c4⟩ := cells5 Z.out; obtain ⟨d0, d1, -, -⟩ := has_two Y.out))
    | (go_at_call 44; ((with_reducible refine (A2.out _ H0.out).mono ?_); rintro e w2 ⟨rfl, b2⟩; replace H0 := Lib.hid (bel_trans H0.out b2); replace Z := Lib.hid (keep_bel b2 Z.out); replace Y := Lib.hid (keep_bel b2 Y.out); clear b2 c0 c1 c2 c3 c4 d0 d1; obtain ⟨c0, c1, c2, c3, c4⟩ := cells5 Z.out; obtain ⟨d0, d1, -, -⟩ := has_two Y.out))
    | (go_at_call 45; ((with_reducible refine (A3.out _ H0.out).mono ?_); rintro e w3 ⟨rfl, b3⟩; replace H0 := Lib.hid (bel_trans H0.out b3); replace Z := Lib.hid (keep_bel b3 Z.out); replace Y := Lib.hid (keep_bel b3 Y.out); clear b3 c0 c1 c2 c3 c4 d0 d1; obtain ⟨c0, c1, c2, c3, c4⟩ := cells5 Z.out; obtain ⟨d0, d1, -, -⟩ := has_two Y.out))
    | (go_at_call 46; ((with_reducible refine (A4.out _ H0.out).mono ?_); rintro e w4 ⟨rfl, b4⟩; replace H0 := Lib.hid (bel_trans H0.out b4); replace Z := Lib.hid (keep_bel b4 Z.out); replace Y := Lib.hid (keep_bel b4 Y.out); clear b4 c0 c1 c2 c3 c4 d0 d1; obtain ⟨c0, c1, c2, c3, c4⟩ := cells5 Z.out; obtain ⟨d0, d1, -, -⟩ := has_two Y.out))
    | fail)
  go_ret
  exact ⟨rfl, H0.out⟩
end Go.Proofs.Ytilnpeekajnlhaa
namespace Go.Proofs.Ytilnpeekajnlhaa
open Go.RowKit Go.Maps
def rnB (kd : Int) (n k b : Nat) (ps : List ByteArray) (ks : List Int) (ms : List MG) (f t : ByteArray) : Bool :=
  (kd == 2) && (((b : Int) == 0) && (((k : Int) == (n : Int) + 1) && (Pv.rightB ps f t && (kidsB ks && (rightB ms && ms.all (wiR f t))))))
theorem rnB_iff {kd : Int} {n k b : Nat} {ps : List ByteArray} {ks : List Int} {ms : List MG} {f t : ByteArray} : rnB kd n k b ps ks ms f t = true ↔ RN kd n k b ps ks ms f t := by
  unfold rnB
  simp only [Bool.and_eq_true, beq_iff_eq]
  constructor
  · rintro ⟨h1, h2, h3, h4, h5, h6, h7⟩
    exact ⟨h1, by omega, by omega, h4, h5, h6, h7⟩
  · rintro ⟨h1, h2, h3, h4, h5, h6, h7⟩
    exact ⟨h1, by omega, by omega, h4, h5, h6, h7⟩
theorem kids_at {l : List Int} {j : Nat} {x : Int} (hx : l[j]? = some x) : kidsK l (j + 1) = (kidsK l j && kidB (l.take j) x) := by
  show (kidsK l j && _) = _
  rw [hx]
set_option maxRecDepth 100000 in
set_option maxHeartbeats 8000000 in
theorem rright14 (kd : Int) (P J M B : Option Addr) (n pc k kc m mc b bc : Nat) (ps : List ByteArray) (ks : List Int) (ms : List MG) (f t : ByteArray) (w : World) (hl : ps.length = n) (hn : n ≤ 100) (hP : Pv.RdS w P ps) (hkl : ks.length = k) (hk1 : k ≤ 1000) (hJ : EI.Rd w J ks) (hm : ms.length = m) (hm1 : m ≤ 1000) (hM : EG.Rd w M ms) (ho : OkA ms) :
    Calls Try.prog 8 #[NV kd (.slice P n pc) (.slice J k kc) (.slice M m mc) (.slice B b bc), .agg #[.string f, .string t]] w fun e w' => e = .returned (.bool (rnB kd n k b ps ks ms f t)) ∧ Below w.heap.size w w' := by
  have A1 := Lib.hid (fun W (h : Below w.heap.size w W) => Pv.rright_all P ps n pc f t W hl (by omega) (Rd.later hP h))
  have A3 := Lib.hid (fun W (h : Below w.heap.size w W) => rright_all M m mc ms W hm hm1 (hM.later h) ho)
  have A4 := Lib.hid (fun W (h : Below w.heap.size w W) => rwithinA_any f t M m mc ms W hm hm1 (hM.later h) ho)
  have JJ := Lib.hid (fun W (h : Below w.heap.size w W) => hJ.later h)
  have HKL := Lib.hid hkl
  clear hl hP hkl hJ hm hm1 hM ho
  have y1 := two_new w (NO kd (.slice P n pc) (.slice J k kc) (.slice M m mc) (.slice B b bc)) (rgc f t)
  have H0 := Lib.hid (bel_alloc (alb w (NO kd (.slice P n pc) (.slice J k kc) (.slice M m mc) (.slice B b bc))) (rgc f t))
  have Z := Lib.hid y1.1
  have Y := Lib.hid y1.2
  clear y1
  obtain ⟨c0, c1, c2, c3, c4⟩ := cells5 Z.out
  obtain ⟨d0, d1, -, -⟩ := has_two Y.out
  have hn0 : (0 : Int) ≤ (n : Int) := by omega
  have hn9 : (n : Int) ≤ 100 := by omega
  have hk0 : (0 : Int) ≤ (k : Int) := by omega
  have hk9 : (k : Int) ≤ 1000 := by omega
  by_cases e1 : kd = 2
  case neg =>
    have h1 : (kd != 2) = true := by simpa using e1
    have FB := Lib.hid (show rnB kd n k b ps ks ms f t = false by unfold rnB; rw [beq_eq_false_iff_ne.2 e1]; rfl)
    clear A3 A4
    go_enter Try.func8, Try.ntmps8
    go_wp2
    go_ret
    exact ⟨by rw [FB.out]; rfl, H0.out⟩
  subst e1
  by_cases e2 : (b : Int) = 0
  case neg =>
    have h2 : ((b : Int) != 0) = true := by simpa using e2
    have h2b : ¬ b = 0 := by omega
    have FB := Lib.hid (show rnB 2 n k b ps ks ms f t = false by unfold rnB; rw [beq_eq_false_iff_ne.2 e2]; rfl)
    clear A3 A4
    go_enter Try.func8, Try.ntmps8
    go_wp2
    go_ret
    exact ⟨by rw [FB.out]; rfl, H0.out⟩
  have h2b : b = 0 := by omega
  subst h2b
  clear e2
  by_cases e3 : (k : Int) = (n : Int) + 1
  case neg =>
    have h3 : ((k : Int) != (n : Int) + 1) = true := by simpa using e3
    have FB := Lib.hid (show rnB 2 n k 0 ps ks ms f t = false by unfold rnB; rw [beq_eq_false_iff_ne.2 e3]; simp)
    clear A3 A4
    go_enter Try.func8, Try.ntmps8
    go_wp2
    go_ret
    exact ⟨by rw [FB.out]; rfl, H0.out⟩
  have h3 : ((k : Int) != (n : Int) + 1) = false := by simpa using e3
  cases e4 : Pv.rightB ps f t
  case false =>
    have FB := Lib.hid (show rnB 2 n k 0 ps ks ms f t = false by unfold rnB; rw [e4]; simp)
    rw [e4] at A1
    clear A3 A4
    go_enter Try.func8, Try.ntmps8
    go_wp2_with (first
      | (go_at_call 32; ((with_reducible refine (A1.out _ H0.out).mono ?_); rintro e w1 ⟨rfl, b1⟩; replace H0 := Lib.hid (bel_trans H0.out b1); replace Z := Lib.hid (keep_bel b1 Z.out); replace Y := Lib.hid (keep_bel b1 Y.out); clear b1 c0 c1 c2 c3 c4 d0 d1; obtain ⟨c0, c1, c2, c3, c4⟩ := cells5 Z.out; obtain ⟨d0, d1, -, -⟩ := has_two Y.out))
      | fail)
    go_ret
    exact ⟨by rw [FB.out]; rfl, H0.out⟩
  rw [e4] at A1
  have NB := Lib.hid (show rnB 2 n k 0 ps ks ms f t = (kidsB ks && (rightB ms && ms.all (wiR f t))) by unfold rnB; rw [e4, beq_iff_eq.2 e3]; rfl)
  have E3 := Lib.hid e3
  clear e4 e3
  go_enter Try.func8, Try.ntmps8
  go_wp2_with (first
    | (go_at_call 32; ((with_reducible refine (A1.out _ H0.out).mono ?_); rintro e w1 ⟨rfl, b1⟩; replace H0 := Lib.hid (bel_trans H0.out b1); replace Z := Lib.hid (keep_bel b1 Z.out); replace Y := Lib.hid (keep_bel b1 Y.out); clear b1 c0 c1 c2 c3 c4 d0 d1; obtain ⟨c0, c1, c2, c3, c4⟩ := cells5 Z.out; obtain ⟨d0, d1, -, -⟩ := has_two Y.out))
    | fail)
  go_loopw [5, 6] (fun iv jv wr => ∃ i : Nat, i ≤ k ∧ iv = .int .i64 i ∧ kidsK ks i = true ∧ wr.heap[w.heap.size]? = some (NO 2 (.slice P n pc) (.slice J k kc) (.slice M m mc) (.slice B 0 bc)) ∧ wr.heap[w.heap.size + 1]? = some (rgc f t) ∧ Below w.heap.size w wr) (fun i _ _ => k - (intOf i).toNat)
  case atStart => exact ⟨0, Nat.zero_le _, rfl, rfl, Z.out, Y.out, H0.out⟩
  case round =>
    obtain ⟨i, hi, rfl, hki, hz, hy, hb⟩ := hrel
    clear c0 c1 c2 c3 c4 d0 d1
    replace Z := Lib.hid hz
    replace Y := Lib.hid hy
    replace H0 := Lib.hid hb
    have HKI := Lib.hid hki
    clear hz hy hb hki
    obtain ⟨c0, c1, c2, c3, c4⟩ := cells5 Z.out
    obtain ⟨d0, d1, -, -⟩ := has_two Y.out
    have hi0 : (0 : Int) ≤ (i : Int) := by omega
    have hi9 : (i : Int) ≤ 1000 := by omega
    by_cases hik : i < k
    · have hlt : (i : Int) < (k : Int) := by omega
      obtain ⟨x, hx⟩ : ∃ x, ks[i]? = some x := ⟨_, List.getElem?_eq_getElem (by rw [HKL.out]; exact hik)⟩
      obtain ⟨b0, off, rfl, hlt0, k0⟩ := ei_at (JJ.out _ H0.out) hx
      have NX : Hid (kidsK ks (i + 1) = kidB (ks.take i) x) := Lib.hid (by rw [kids_at hx, HKI.out]; rfl)
      have FF : Hid (kidB (ks.take i) x = false → rnB 2 n k 0 ps ks ms f t = false) := Lib.hid (fun h => by rw [NB.out, show kidsB ks = false from kids_less (NX.out.trans h) _ (by rw [HKL.out]; omega)]; rfl)
      have HX := Lib.hid hx
      clear hx hlt0
      by_cases x1 : x < 1
      · have FB := Lib.hid (FF.out (by unfold kidB; rw [decide_eq_false (by omega)]; rfl))
        go_wp2
        go_ret
        exact ⟨by rw [FB.out]; rfl, H0.out⟩
      · by_cases x2 : x > 4096
        · have x3 : 4096 < x := x2
          have FB := Lib.hid (FF.out (by unfold kidB; rw [decide_eq_false (p := x ≤ 4096) (by omega)]; simp))
          go_wp2
          go_ret
          exact ⟨by rw [FB.out]; rfl, H0.out⟩
        · have x3 : ¬ 4096 < x := x2
          have KX := Lib.hid (show ∀ c, (ks.take i).contains x = c → kidB (ks.take i) x = !c by intro c hc; unfold kidB; rw [decide_eq_true (p := 1 ≤ x) (by omega), decide_eq_true (p := x ≤ 4096) (by omega), hc]; simp)
          go_wp2
          go_loopw [6] (fun jv wv => ∃ j : Nat, j ≤ i ∧ jv = .int .i64 j ∧ (ks.take j).contains x = false ∧ wv.heap[w.heap.size]? = some (NO 2 (.slice P n pc) (.slice (some ⟨b0, off, none⟩) k kc) (.slice M m mc) (.slice B 0 bc)) ∧ wv.heap[w.heap.size + 1]? = some (rgc f t) ∧ Below w.heap.size w wv) (fun j _ => i - (intOf j).toNat)
          case atStart => exact ⟨0, Nat.zero_le _, rfl, by simp, Z.out, Y.out, H0.out⟩
          case round =>
            obtain ⟨j, hj, rfl, hkj, hz, hy, hb⟩ := hrel
            clear c0 c1 c2 c3 c4 d0 d1 k0
            replace Z := Lib.hid hz
            replace Y := Lib.hid hy
            replace H0 := Lib.hid hb
            have HKJ := Lib.hid hkj
            clear hz hy hb hkj
            obtain ⟨c0, c1, c2, c3, c4⟩ := cells5 Z.out
            obtain ⟨d0, d1, -, -⟩ := has_two Y.out
            have hj0 : (0 : Int) ≤ (j : Int) := by omega
            have hj9 : (j : Int) ≤ 1000 := by omega
            by_cases hji : j < i
            · have hjl : (j : Int) < (i : Int) := by omega
              have hjk : (j : Int) < (k : Int) := by omega
              obtain ⟨y, hy⟩ : ∃ y, ks[j]? = some y := ⟨_, List.getElem?_eq_getElem (by rw [HKL.out]; omega)⟩
              obtain ⟨b1, off1, e5, _, k1⟩ := ei_at (JJ.out _ H0.out) hy
              cases e5
              obtain ⟨b2, off2, e6, _, k2⟩ := ei_at (JJ.out _ H0.out) HX.out
              cases e6
              have TK := Lib.hid (show (ks.take (j + 1)).contains x = (x == y) by
                have e := List.take_add_one (l := ks) (i := j)
                rw [hy] at e
                rw [e, List.contains_append, HKJ.out, Bool.false_or, Bool.eq_iff_iff]
                simp)
              clear hy
              cases hxy : (y == x)
              · have hxy2 : (y == x) = false := hxy
                have hxy3 : ¬ y = x := by simpa using hxy
                go_wp2_with fail
                go_quiet (fail)
                go_wp2
                exact ⟨⟨j + 1, by omega, by simp, by rw [TK.out]; simpa using fun h => hxy3 h.symm, Z.out, Y.out, bel_drewN H0.out _⟩, by simp [intOf]; omega⟩
              · have hxy3 : y = x := by simpa using hxy
                have FB := Lib.hid (FF.out (by
                  rw [KX.out true (by
                    rw [List.contains_iff_mem]
                    have : x ∈ ks.take (j + 1) := by rw [← List.contains_iff_mem, TK.out]; simp [hxy3]
                    exact List.mem_of_mem_take (i := j + 1) (by rw [List.take_take]; rw [Nat.min_eq_left (by omega)]; exact this))]
                  rfl))
                go_wp2_with fail
                go_quiet (fail)
                go_wp2
                go_ret
                exact ⟨by rw [FB.out]; rfl, bel_drewN H0.out _⟩
            · have hjl : ¬ (j : Int) < (i : Int) := by omega
              have e : j = i := by omega
              subst e
              have FB := Lib.hid (show kidsK ks (j + 1) = true by rw [NX.out, KX.out _ HKJ.out]; rfl)
              go_wp2
              exact ⟨⟨j + 1, by omega, by simp, FB.out, Z.out, Y.out, H0.out⟩, by simp [intOf]; omega⟩
    · have hlt : ¬ (i : Int) < (k : Int) := by omega
      have e : i = k := by omega
      have KB : kidsB ks = true := by unfold kidsB; rw [HKL.out, ← e]; exact HKI.out
      rw [KB] at NB
      cases r1 : rightB ms
      · rw [r1] at NB A3
        go_wp2_with (first
          | (go_at_call 33; ((with_reducible refine (A3.out _ H0.out).mono ?_); rintro e w1 ⟨rfl, b1⟩; replace H0 := Lib.hid (bel_trans H0.out b1); replace Z := Lib.hid (keep_bel b1 Z.out); replace Y := Lib.hid (keep_bel b1 Y.out); clear b1 c0 c1 c2 c3 c4 d0 d1; obtain ⟨c0, c1, c2, c3, c4⟩ := cells5 Z.out; obtain ⟨d0, d1, -, -⟩ := has_two Y.out))
          | fail)
        go_ret
        exact ⟨by rw [NB.out]; rfl, H0.out⟩
      · rw [r1] at NB A3
        cases r2 : ms.all (wiR f t)
        all_goals
          rw [r2] at NB A4
          go_wp2_with (first
            | (go_at_call 33; ((with_reducible refine (A3.out _ H0.out).mono ?_); rintro e w1 ⟨rfl, b1⟩; replace H0 := Lib.hid (bel_trans H0.out b1); replace Z := Lib.hid (keep_bel b1 Z.out); replace Y := Lib.hid (keep_bel b1 Y.out); clear b1 c0 c1 c2 c3 c4 d0 d1; obtain ⟨c0, c1, c2, c3, c4⟩ := cells5 Z.out; obtain ⟨d0, d1, -, -⟩ := has_two Y.out))
            | (go_at_call 34; ((with_reducible refine (A4.out _ H0.out).mono ?_); rintro e w1 ⟨rfl, b1⟩; replace H0 := Lib.hid (bel_trans H0.out b1); replace Z := Lib.hid (keep_bel b1 Z.out); replace Y := Lib.hid (keep_bel b1 Y.out); clear b1 c0 c1 c2 c3 c4 d0 d1; obtain ⟨c0, c1, c2, c3, c4⟩ := cells5 Z.out; obtain ⟨d0, d1, -, -⟩ := has_two Y.out))
            | fail)
          go_ret
          exact ⟨by rw [NB.out]; rfl, H0.out⟩
end Go.Proofs.Ytilnpeekajnlhaa
namespace Go.Proofs.Ytilnpeekajnlhaa
open Go.RowKit Go.Maps
/-- The messages for a kid. -/
def kidL (ps : List ByteArray) (f t : ByteArray) (i : Int) (ms : List MG) : List MG := if Pv.spanB ps f t i = true then forL (Pv.spanF ps f t i).1 (Pv.spanF ps f t i).2 ms else []
set_option maxHeartbeats 4000000 in
theorem ifor_any (kd : Int) (P J M B : Option Addr) (n pc k kc m mc b bc : Nat) (ps : List ByteArray) (ms : List MG) (f t : ByteArray) (i : Int) (w : World) (hl : ps.length = n) (hn : n ≤ 100) (hP : Pv.RdS w P ps) (hk : k = n + 1) (hm : ms.length = m) (hm1 : m ≤ 1000) (hM : EG.Rd w M ms) (ho : OkA ms) :
    Calls Try.prog 18 #[NV kd (.slice P n pc) (.slice J k kc) (.slice M m mc) (.slice B b bc), .agg #[.string f, .string t], .int .i64 i] w fun r w' => (∃ A' c', r = .returned (.slice A' (kidL ps f t i ms).length c') ∧ EG.Row w' w.heap.size A' (kidL ps f t i ms) c') ∧ Below w.heap.size w w' := by
  have SP := Lib.hid (fun W (h : Below w.heap.size w W) => part_all kd P J M B n pc k kc m mc b bc ps f t i W hl hn (Rd.later hP h) hk)
  have FA := Lib.hid (fun x y W (h : Below w.heap.size w W) => for_any x y M m mc ms W hm hm1 (hM.later h) ho)
  have y1 := two_new w (NO kd (.slice P n pc) (.slice J k kc) (.slice M m mc) (.slice B b bc)) (rgc f t)
  have H0 := Lib.hid (bel_alloc (alb w (NO kd (.slice P n pc) (.slice J k kc) (.slice M m mc) (.slice B b bc))) (rgc f t))
  have Z := Lib.hid y1.1
  have Y := Lib.hid y1.2
  unfold kidL
  unfold Pv.SpanPost Pv.spv at SP
  obtain ⟨x, hx⟩ : ∃ x, x = (Pv.spanF ps f t i).1 := ⟨_, rfl⟩
  obtain ⟨y, hy⟩ : ∃ y, y = (Pv.spanF ps f t i).2 := ⟨_, rfl⟩
  rw [← hx, ← hy] at SP ⊢
  obtain ⟨c0, c1, c2, c3, c4⟩ := cells5 Z.out
  obtain ⟨d0, d1, -, -⟩ := has_two Y.out
  cases hok : Pv.spanB ps f t i
  · rw [hok] at SP
    clear hx hy hok hl hP hm hM ho hk y1
    go_enter Try.func18, Try.ntmps18
    go_wp2_with (first
      | (go_at_call 37; ((with_reducible refine (SP.out _ H0.out).mono ?_); rintro e w1 ⟨rfl, b1⟩; have B1 := Lib.hid (bel_trans H0.out b1); clear b1))
      | fail)
    go_ret
    exact ⟨⟨none, 0, rfl, RE.Row.nil⟩, bel_alloc B1.out _⟩
  · rw [hok] at SP
    clear hx hy hok hl hP hm hM ho hk y1
    go_enter Try.func18, Try.ntmps18
    go_wp2_with (first
      | (go_at_call 37; ((with_reducible refine (SP.out _ H0.out).mono ?_); rintro e w1 ⟨rfl, b1⟩; have B1 := Lib.hid (bel_alloc (bel_trans H0.out b1) (rgc x y)); have Z1 := Lib.hid (keep_bel (bel_trans b1 (alb w1 (rgc x y))) Z.out); clear b1 c0 c1 c2 c3 c4 d0 d1; obtain ⟨c0, c1, c2, c3, c4⟩ := cells5 Z1.out; obtain ⟨d0, d1, -, -⟩ := has_two (heap_alloc_new w1 (rgc x y))))
      | (go_at_call 48; ((with_reducible refine (FA.out x y _ B1.out).mono ?_); rintro e w2 ⟨⟨A', c', rfl, r2⟩, b2⟩; have R2 := Lib.hid r2; have B2 := Lib.hid (bel_trans B1.out b2); clear b2 r2))
      | fail)
    go_ret
    exact ⟨⟨A', c', rfl, R2.out.base B1.out.size⟩, B2.out⟩
end Go.Proofs.Ytilnpeekajnlhaa
namespace Go.Proofs.Ytilnpeekajnlhaa
open Go.RowKit Go.Maps
set_option maxRecDepth 100000 in
set_option maxHeartbeats 8000000 in
theorem rres_any (a b : ByteArray) (A : Option Addr) (n cap : Nat) (xs : List MG) (w : World) (hl : xs.length = n) (hn : n ≤ 400) (hA : EG.Rd w A xs) (hs : ∀ k, k ≤ n → accM [] (resL a b (xs.take k)) = resL a b (xs.take k)) :
    Calls Try.prog 42 #[.slice A n cap, .agg #[.string a, .string b]] w (RowsOf (resL a b xs) w) := by
  have HL := Lib.hid hl
  have HA := Lib.hid hA
  have HS := Lib.hid hs
  have H0 := Lib.hid (bel_alloc (alb w (rgc a b)) (.cells #[] 62))
  have z0 := Lib.hid (keep_bel (alb _ (.cells #[] 62)) (heap_alloc_new w (rgc a b)))
  clear hl hA hs
  go_enter Try.func42, Try.ntmps42
  go_wp2
  go_loopw [5, 6] (fun sv iv wr => ∃ (k : Nat) (A' : Option Addr) (c' m : Nat), k ≤ n ∧ iv = .int .i64 k ∧ sv = .slice A' m c' ∧ Hid ((resL a b (xs.take k)).length = m) ∧ Hid (EG.Rd wr A' (resL a b (xs.take k))) ∧ Below w.heap.size w wr ∧ Hid (wr.heap[w.heap.size]? = some (rgc a b))) (fun _ i _ => n - (intOf i).toNat)
  case atStart => exact ⟨0, _, 0, 0, by omega, rfl, rfl, Lib.hid rfl, Lib.hid (.inl rfl), H0.out, z0⟩
  case round =>
    obtain ⟨k, A', c', m, hk, rfl, rfl, HM, HR, hb, ZR⟩ := hrel
    have HB := Lib.hid hb
    clear hb
    by_cases h8 : k < n
    · have hk1 : (k : Int) < (n : Int) := by omega
      have hk0 : (0 : Int) ≤ (k : Int) := by omega
      obtain ⟨x, hx⟩ : ∃ x, xs[k]? = some x := ⟨_, List.getElem?_eq_getElem (by rw [HL.out]; omega)⟩
      obtain ⟨b', off, rfl, hlt, g0, g1, g2, g3, g4, g5⟩ := eg_at (HA.out.later HB.out) hx
      have HNX := Lib.hid (resL_next (a := a) (b := b) hx)
      have AC := Lib.hid (rrest_any x a b)
      have HMM : Hid (m ≤ 800) := Lib.hid (by have := resL_len a b (xs.take k); have := take_le xs k; rw [HM.out] at *; omega)
      obtain ⟨d0, d1, -, -⟩ := has_two ZR.out
      have HACC := Lib.hid (HS.out (k + 1) (by omega))
      obtain ⟨L, hL⟩ : ∃ L, restM x a b = L := ⟨_, rfl⟩
      have HQL : Hid (L.length ≤ 2) := Lib.hid (by rw [← hL]; exact rest_len x a b)
      rw [HNX.out] at HACC
      rw [hL] at HNX AC HACC
      obtain ⟨q, hq⟩ : ∃ q, L.length = q := ⟨_, rfl⟩
      have HQ := Lib.hid hq
      rw [hq] at HQL
      clear hx hlt hL
      have KS := Lib.hid (show ∀ W, Below wr.heap.size wr W → SF wr w.heap.size b' (off + k * 6) a b x W from fun W h => ⟨h, bel_later h d0, bel_later h d1, bel_later h g0, bel_later h g1, bel_later h g2, bel_later h g3, bel_later h g4, bel_later h g5⟩)
      clear d0 d1 g0 g1 g2 g3 g4 g5
      unfold RowsOf at AC
      rw [hq] at AC
      clear hq
      go_wp2_with fail
      refine wp_region_held_drew (S := (fun V : World => SF wr w.heap.size b' (off + k * 6) a b x V)) (by kernel_rfl) ?_ (fun hHeld => ?_)
      · exact KS.out _ ((Below.refl _ _).drew)
      have HHeld := Lib.hid hHeld; clear hHeld
      refine wT (i := 0) (oi := { dst := some 14, op := Op.move (Operand.tmp 5), type := 25, pos := "ref.go:93", after := #[], guard := none }) (v := ?_) rfl (Or.inl ⟨by rfl, ?_⟩) HHeld.out ?_
      rotate_left
      · intro w hSw; clear hSw; go_simp; try with_reducible rfl
      try simp only [pu, pn, s1, s2, s3]
      refine wT (i := 1) (oi := { dst := some 15, op := Op.move (Operand.tmp 0), type := 25, pos := "ref.go:93", after := #[], guard := none }) (v := ?_) rfl (Or.inl ⟨by rfl, ?_⟩) HHeld.out ?_
      rotate_left
      · intro w hSw; clear hSw; go_simp; try with_reducible rfl
      try simp only [pu, pn, s1, s2, s3]
      refine wT (i := 2) (oi := { dst := some 16, op := Op.move (Operand.tmp 6), type := 3, pos := "ref.go:93", after := #[], guard := none }) (v := ?_) rfl (Or.inl ⟨by rfl, ?_⟩) HHeld.out ?_
      rotate_left
      · intro w hSw; clear hSw; go_simp; try with_reducible rfl
      try simp only [pu, pn, s1, s2, s3]
      refine wT (i := 3) (oi := { dst := some 17, op := Op.indexAddr 25 (Operand.tmp 15) (Operand.tmp 16), type := 0, pos := "ref.go:93", after := #[{ on := 1, ground := Ground.data }, { on := 2, ground := Ground.data }], guard := none }) (v := ?_) rfl (Or.inl ⟨by rfl, ?_⟩) HHeld.out ?_
      rotate_left
      · intro w hSw; clear hSw; go_simp; try with_reducible rfl
      try simp only [pu, pn, s1, s2, s3]
      refine wT (i := 4) (oi := { dst := some 18, op := Op.load 62 (Operand.tmp 17), type := 62, pos := "ref.go:93", after := #[{ on := 3, ground := Ground.data }], guard := none }) (v := (.agg #[.int .u8 x.kd, .int .i64 x.sq, .string x.ky, .string x.to, .string x.vl, .int .u64 x.dl] : Value)) rfl (Or.inl ⟨by rfl, ?_⟩) HHeld.out ?_
      · intro V hV; have hc0 := hV.2.2.2.1; have hc1 := hV.2.2.2.2.1; have hc2 := hV.2.2.2.2.2.1; have hc3 := hV.2.2.2.2.2.2.1; have hc4 := hV.2.2.2.2.2.2.2.1; have hc5 := hV.2.2.2.2.2.2.2.2; clear hV; go_simp
      try simp only [pu, pn, s1, s2, s3]
      refine wT (i := 5) (oi := { dst := some 19, op := Op.load 30 (Operand.tmp 3), type := 30, pos := "ref.go:93", after := #[], guard := none }) (v := (.agg #[.string a, .string b] : Value)) rfl (Or.inl ⟨by rfl, ?_⟩) HHeld.out ?_
      · intro V hV; have hc0 := hV.2.1; have hc1 := hV.2.2.1; clear hV; go_simp
      try simp only [pu, pn, s1, s2, s3]
      refine wpAnyH_ready (rs := [6]) (by kernel_rfl) (by simp) ?_
      refine AllReadyH.cons (o := { dst := some 20, op := Op.call { callee := Callee.value (Operand.func 76), args := #[Operand.tmp 18, Operand.tmp 19], argTypes := #[62, 30] }, type := 25, pos := "ref.go:93", after := #[{ on := 4, ground := Ground.data }, { on := 5, ground := Ground.data }], guard := none }) rfl (fun K hK => ?_) AllReadyH.nil
      go_simp
      go_at_call 76; ((with_reducible refine (AC.out _).mono ?_); rintro e v5 ⟨⟨A5, q5, rfl, r5⟩, b5⟩; have B5 := Lib.hid (bel_trans HHeld.out.1 b5); have R5 := Lib.hid r5; clear b5 r5)
      refine hK.out _ _ ?_ (fun hHeld => ?_)
      · exact KS.out _ B5.out
      clear HHeld; have HHeld := Lib.hid hHeld; clear hHeld
      clear hK K
      try simp only [pu, pn, s1, s2, s3]
      refine wpAnyH_ready (rs := [7]) (by kernel_rfl) (by simp) ?_
      refine AllReadyH.cons (o := { dst := some 21, op := Op.call { callee := Callee.value (Operand.func 75), args := #[Operand.tmp 14, Operand.tmp 20], argTypes := #[25, 25] }, type := 25, pos := "ref.go:93", after := #[{ on := 0, ground := Ground.data }, { on := 6, ground := Ground.data }, { on := 6, ground := Ground.chain }], guard := none }) rfl (fun K hK => ?_) AllReadyH.nil
      have AD := Lib.hid (radd_any A' A5 m c' q q5 (resL a b (xs.take k)) L v5 HM.out HQ.out (by have := HMM.out; have := HQL.out; omega) (HR.out.later B5.out) R5.out)
      rw [HACC.out] at AD
      go_simp
      go_at_call 75; ((with_reducible refine AD.out.mono ?_); rintro e v6 ⟨⟨b6, o6, q6, rfl, r6, -, -⟩, bb6⟩; have B6 := Lib.hid (bel_trans B5.out bb6); have R6 := Lib.hid r6; clear bb6 r6)
      refine hK.out _ _ ?_ (fun hHeld => ?_)
      · exact KS.out _ B6.out
      clear HHeld; have HHeld := Lib.hid hHeld; clear hHeld
      clear hK K
      try simp only [pu, pn, s1, s2, s3]
      refine wT (i := 8) (oi := { dst := some 5, op := Op.assign (Operand.tmp 21), type := 25, pos := "ref.go:93", after := #[{ on := 7, ground := Ground.data }, { on := 7, ground := Ground.chain }, { on := 0, ground := Ground.phase }, { on := 1, ground := Ground.phase }, { on := 2, ground := Ground.phase }, { on := 3, ground := Ground.phase }, { on := 4, ground := Ground.phase }, { on := 5, ground := Ground.phase }, { on := 6, ground := Ground.phase }, { on := 7, ground := Ground.phase }], guard := none }) (v := ?_) rfl (Or.inl ⟨by rfl, ?_⟩) HHeld.out ?_
      rotate_left
      · intro w hSw; clear hSw; go_simp; try with_reducible rfl
      try simp only [pu, pn, s1, s2, s3]
      refine wpAnyH_done (by kernel_rfl) ?_ _
      have BW := Lib.hid (bel_trans HB.out B6.out)
      have ZR2 := Lib.hid (keep_bel B6.out ZR.out)
      clear HHeld
      go_wp2
      exact ⟨⟨k + 1, _, _, _, by omega, by simp, rfl, Lib.hid (by rw [HNX.out]; simp), Lib.hid (by rw [HNX.out]; exact R6.out), BW.out, ZR2⟩, by simp [intOf]; omega⟩
    · have hk1 : ¬ (k : Int) < (n : Int) := by omega
      have e : xs.take k = xs := List.take_of_length_le (by rw [HL.out]; omega)
      rw [e] at HM HR
      have hm := HM.out
      subst hm
      go_wp2
      go_ret
      exact ⟨⟨_, _, rfl, HR.out⟩, HB.out⟩
end Go.Proofs.Ytilnpeekajnlhaa
namespace Go.Proofs.Ytilnpeekajnlhaa
open Go.RowKit Go.Maps
/-- The messages that are not for a kid. -/
def restL (ps : List ByteArray) (f t : ByteArray) (i : Int) (ms : List MG) : List MG := if Pv.spanB ps f t i = true then resL (Pv.spanF ps f t i).1 (Pv.spanF ps f t i).2 ms else ms
theorem flt_get : ∀ (ps : List (ByteArray × ByteArray)) (i : Nat) (x : ByteArray × ByteArray), ps[i]? = some x → (Pv.flt ps)[i * 2]? = some (.string x.1) ∧ (Pv.flt ps)[i * 2 + 1]? = some (.string x.2)
  | [], i, x, h => by simp at h
  | y :: ps, 0, x, h => by simp at h; subst h; simp [Pv.flt]
  | y :: ps, i + 1, x, h => by
    have := flt_get ps i x (by simpa using h)
    rw [show Pv.flt (y :: ps) = [.string y.1, .string y.2] ++ Pv.flt ps by simp [Pv.flt], show (i + 1) * 2 = i * 2 + 2 by omega]
    simpa using this
theorem rdp_get {w : World} {A : Option Addr} {ps : List (ByteArray × ByteArray)} (h : Pv.RdP w A ps) {i : Nat} {x : ByteArray × ByteArray} (hx : ps[i]? = some x) :
    ∃ b off, A = some ⟨b, off, none⟩ ∧ w.cell? ⟨b, off + i * 2, none⟩ = some (.string x.1) ∧ w.cell? ⟨b, off + i * 2 + 1, none⟩ = some (.string x.2) := by
  obtain ⟨h1, h2⟩ := flt_get ps i x hx
  obtain ⟨b, off, e, _, k1⟩ := Rd.get h h1
  obtain ⟨b', off', e', _, k2⟩ := Rd.get h h2
  rw [e] at e'
  cases e'
  exact ⟨b, off, e, k1, by rw [← Nat.add_assoc] at k2; exact k2⟩
theorem parts_at {ps : List ByteArray} {f t : ByteArray} {i : Int} (h : Pv.spanB ps f t i = true) : ∃ j : Nat, i = j ∧ j < (Pv.parts ps f t).length ∧ (Pv.parts ps f t)[j]? = some (Pv.spanF ps f t i) := by
  have h' := h
  unfold Pv.spanB at h'
  simp only [Bool.and_eq_true, decide_eq_true_eq] at h'
  obtain ⟨h1, h2, h3⟩ := h'
  obtain ⟨j, rfl⟩ := Int.eq_ofNat_of_zero_le h1
  have hm : Pv.many ps f t = ps.length + 1 := by unfold Pv.many; rw [if_pos h3]
  refine ⟨j, rfl, ?_, ?_⟩
  · unfold Pv.parts; rw [List.length_map, List.length_range, hm]; omega
  · unfold Pv.parts Pv.spanF
    rw [if_pos h, List.getElem?_map, List.getElem?_range (by rw [hm]; omega)]
    simp
theorem parts_far {ps : List ByteArray} {f t : ByteArray} {i : Int} (hr : Pv.rightB ps f t = true) (h : Pv.spanB ps f t i = false) : i < 0 ∨ ((Pv.parts ps f t).length : Int) ≤ i := by
  unfold Pv.spanB at h
  rw [hr, Bool.and_true] at h
  have hm : Pv.many ps f t = ps.length + 1 := by unfold Pv.many; rw [if_pos hr]
  have hp : (Pv.parts ps f t).length = ps.length + 1 := by unfold Pv.parts; rw [List.length_map, List.length_range, hm]
  rw [hp]
  by_cases h1 : 0 ≤ i
  · rw [decide_eq_true h1, Bool.true_and, decide_eq_false_iff_not] at h
    exact .inr (by omega)
  · exact .inl (by omega)
end Go.Proofs.Ytilnpeekajnlhaa
namespace Go.Proofs.Ytilnpeekajnlhaa
open Go.RowKit Go.Maps
theorem nlt_tr {a b c : ByteArray} (h1 : lt b a = false) (h2 : lt c b = false) : lt c a = false := by
  unfold lt at *
  rcases bl_tri c.toList a.toList with k | k | k
  · rcases bl_tri b.toList a.toList with q | q | q
    · rw [h1] at q; cases q
    · rw [← q] at k; rw [h2] at k; cases k
    · have := bl_trans _ _ _ k q; rw [h2] at this; cases this
  · rw [k]; exact bl_irr _
  · exact bl_asymm _ _ k
theorem bef_tr {a b c : ByteArray} (h1 : bef a b = false) (h2 : bef b c = false) : bef a c = false := by
  unfold bef at *
  cases ea : emp a
  · rw [ea] at h1
    cases eb : emp b
    · rw [eb] at h1 h2
      simp at h1 h2
      cases ec : emp c
      · simp [ec] at h2
        simp [ec, nlt_tr h2 h1]
      · simp [ec] at h2
    · rw [eb] at h1
      simp at h1
  · simp
theorem wi_sub {q x : MG} {f t : ByteArray} (h : SubM q x) (hw : wiR f t x = true) : wiR f t q = true := by
  unfold wiR at hw ⊢
  simp only [Bool.and_eq_true, Bool.not_eq_true'] at hw ⊢
  obtain ⟨h1, h2, h3, h4⟩ := hw
  obtain ⟨k1, k2, k3⟩ := kd_ok h.rc
  exact ⟨k2, h2, nlt_tr h3 h.lo, bef_tr h4 h.hi⟩
theorem resL_wi {xs : List MG} {f t : ByteArray} (hr : rightB xs = true) (hw : xs.all (wiR f t) = true) (a b : ByteArray) : (resL a b xs).all (wiR f t) = true := by
  rw [List.all_eq_true] at hw ⊢
  intro q hq
  obtain ⟨x, hx, hq⟩ := List.mem_flatMap.1 hq
  exact wi_sub ((rest_sub (((right_iff xs).1 hr).1 x hx) a b).1 q hq) (hw x hx)
/-- The rest of a node that is right is right. -/
theorem rest_rn {kd : Int} {n k b : Nat} {ps : List ByteArray} {ks : List Int} {ms : List MG} {f t : ByteArray} (h : RN kd n k b ps ks ms f t) (i : Int) : RN kd n k b ps ks (restL ps f t i ms) f t := by
  refine ⟨h.hkd, h.hb, h.hk, h.hps, h.hks, ?_, ?_⟩
  · unfold restL
    split
    · exact resL_right h.hms _ _
    · exact h.hms
  · unfold restL
    split
    · exact resL_wi h.hms h.hwi _ _
    · exact h.hwi
end Go.Proofs.Ytilnpeekajnlhaa
