/- Texts of the proof, one behind the other. -/
import Derived.Test.YtilnpeekajnlhaaOk27
import Derived.Test.YtilnpeekajnlhaaOk09
import Derived.Test.YtilnpeekajnlhaaOk17
import Derived.Test.YtilnpeekajnlhaaOk05
import Derived.Test.YtilnpeekajnlhaaOk08
import Derived.Test.YtilnpeekajnlhaaOk16
import Derived.Test.YtilnpeekajnlhaaOk07
import Derived.Test.YtilnpeekajnlhaaOk18
import Derived.Test.YtilnpeekajnlhaaOk26
import Derived.Test.YtilnpeekajnlhaaOk12
set_option linter.unusedVariables false
set_option linter.unusedSimpArgs false
namespace Go.Proofs.Ytilnpeekajnlhaa
open Go.RowKit Go.Maps
/-- A node that is right for a range. -/
structure RN (kd : Int) (n k b : Nat) (ps : List ByteArray) (ks : List Int) (ms : List MG) (f t : ByteArray) : Prop where
  hkd : kd = 2
  hb : b = 0
  hk : k = n + 1
  hps : Pv.rightB ps f t = true
  hks : kidsB ks = true
  hms : rightB ms = true
  hwi : ms.all (wiR f t) = true
set_option maxRecDepth 100000 in
set_option maxHeartbeats 8000000 in
theorem iright_true (kd : Int) (P J M B : Option Addr) (n pc k kc m mc b bc : Nat) (ps : List ByteArray) (ks : List Int) (ms : List MG) (f t : ByteArray) (w : World) (hl : ps.length = n) (hn : n ≤ 100) (hP : Pv.RdS w P ps) (hkl : ks.length = k) (hJ : EI.Rd w J ks) (hx : ∀ x ∈ ks, (Lit.int .i64 x).wf = true) (hm : ms.length = m) (hm1 : m ≤ 1000) (hM : EG.Rd w M ms) (ho : OkA ms) (hr : RN kd n k b ps ks ms f t) :
    Calls Try.prog 16 #[NV kd (.slice P n pc) (.slice J k kc) (.slice M m mc) (.slice B b bc), .agg #[.string f, .string t]] w fun e w' => e = .returned (.bool true) ∧ Below w.heap.size w w' := by
  have A1 := Lib.hid (fun W (h : Below w.heap.size w W) => Pv.right_any P ps n pc f t W hl (by omega) (Rd.later hP h))
  rw [hr.hps] at A1
  have A2 := Lib.hid (fun W (h : Below w.heap.size w W) => rightKids_any J k kc ks W hkl (by have := hr.hk; omega) (hJ.later h) hx)
  rw [hr.hks] at A2
  have A3 := Lib.hid (fun W (h : Below w.heap.size w W) => right_any M m mc ms W hm hm1 (hM.later h) ho)
  rw [hr.hms] at A3
  have A4 := Lib.hid (fun W (h : Below w.heap.size w W) => withinA_any f t M m mc ms W hm hm1 (hM.later h) ho)
  rw [hr.hwi] at A4
  obtain ⟨rfl, rfl, hk, -, -, -, -⟩ := hr
  have hw : IntKind.i64.wrap ((k : Int) - 1) = (n : Int) := by rw [IntWalk.i64_in _ (by omega)]; omega
  clear hl hP hkl hJ hx hm hM ho hk
  have y1 := two_new w (NO 2 (.slice P n pc) (.slice J k kc) (.slice M m mc) (.slice B 0 bc)) (rgc f t)
  have H0 := Lib.hid (bel_alloc (alb w (NO 2 (.slice P n pc) (.slice J k kc) (.slice M m mc) (.slice B 0 bc))) (rgc f t))
  have Z := Lib.hid y1.1
  have Y := Lib.hid y1.2
  clear y1
  obtain ⟨c0, c1, c2, c3, c4⟩ := cells5 Z.out
  obtain ⟨d0, d1, -, -⟩ := has_two Y.out
  go_enter Try.func16, Try.ntmps16
  go_wp2_with (first
    | (go_at_call 43; ((with_reducible refine (A1.out _ H0.out).mono ?_); rintro e w1 ⟨rfl, b1⟩; replace H0 := Lib.hid (bel_trans H0.out b1); replace Z := Lib.hid (keep_bel b1 Z.out); replace Y := Lib.hid (keep_bel b1 Y.out); clear b1 c0 c1 c2 c3 c4 d0 d1; obtain ⟨c0, c1, c2, c3, c4⟩ := cells5 Z.out; obtain ⟨d0, d1, -, -⟩ := has_two Y.out))
    | (go_at_call 44; ((with_reducible refine (A2.out _ H0.out).mono ?_); rintro e w2 ⟨rfl, b2⟩; replace H0 := Lib.hid (bel_trans H0.out b2); replace Z := Lib.hid (keep_bel b2 Z.out); replace Y := Lib.hid (keep_bel b2 Y.out); clear b2 c0 c1 c2 c3 c4 d0 d1; obtain ⟨c0, c1, c2, c3, c4⟩ := cells5 Z.out; obtain ⟨d0, d1, -, -⟩ := has_two Y.out))
    | (go_at_call 45; ((with_reducible refine (A3.out _ H0.out).mono ?_); rintro e w3 ⟨rfl, b3⟩; replace H0 := Lib.hid (bel_trans H0.out b3); replace Z := Lib.hid (keep_bel b3 Z.out); replace Y := Lib.hid (keep_bel b3 Y.out); clear b3 c0 c1 c2 c3 c4 d0 d1; obtain ⟨c0, c1, c2, c3, c4⟩ := cells5 Z.out; obtain ⟨d0, d1, -, -⟩ := has_two Y.out))
    | (go_at_call 46; ((with_reducible refine (A4.out _ H0.out).mono ?_); rintro e w4 ⟨rfl, b4⟩; replace H0 := Lib.hid (bel_trans H0.out b4); replace Z := Lib.hid (keep_bel b4 Z.out); replace Y := Lib.hid (keep_bel b4 Y.out); clear b4 c0 c1 c2 c3 c4 d0 d1; obtain ⟨c0, c1, c2, c3, c4⟩ := cells5 Z.out; obtain ⟨d0, d1, -, -⟩ := has_two Y.out))
    | fail)
  go_ret
  exact ⟨rfl, H0.out⟩
end Go.Proofs.Ytilnpeekajnlhaa
namespace Go.Proofs.Ytilnpeekajnlhaa
open Go.RowKit Go.Maps
def rnB (kd : Int) (n k b : Nat) (ps : List ByteArray) (ks : List Int) (ms : List MG) (f t : ByteArray) : Bool :=
  (kd == 2) && (((b : Int) == 0) && (((k : Int) == (n : Int) + 1) && (Pv.rightB ps f t && (kidsB ks && (rightB ms && ms.all (wiR f t))))))
theorem rnB_iff {kd : Int} {n k b : Nat} {ps : List ByteArray} {ks : List Int} {ms : List MG} {f t : ByteArray} : rnB kd n k b ps ks ms f t = true ↔ RN kd n k b ps ks ms f t := by
  unfold rnB
  simp only [Bool.and_eq_true, beq_iff_eq]
  constructor
  · rintro ⟨h1, h2, h3, h4, h5, h6, h7⟩
    exact ⟨h1, by omega, by omega, h4, h5, h6, h7⟩
  · rintro ⟨h1, h2, h3, h4, h5, h6, h7⟩
    exact ⟨h1, by omega, by omega, h4, h5, h6, h7⟩
theorem kids_at {l : List Int} {j : Nat} {x : Int} (hx : l[j]? = some x) : kidsK l (j + 1) = (kidsK l j && kidB (l.take j) x) := by
  show (kidsK l j && _) = _
  rw [hx]
set_option maxRecDepth 100000 in
set_option maxHeartbeats 8000000 in
theorem rright14 (kd : Int) (P J M B : Option Addr) (n pc k kc m mc b bc : Nat) (ps : List ByteArray) (ks : List Int) (ms : List MG) (f t : ByteArray) (w : World) (hl : ps.length = n) (hn : n ≤ 100) (hP : Pv.RdS w P ps) (hkl : ks.length = k) (hk1 : k ≤ 1000) (hJ : EI.Rd w J ks) (hm : ms.length = m) (hm1 : m ≤ 1000) (hM : EG.Rd w M ms) (ho : OkA ms) :
    Calls Try.prog 8 #[NV kd (.slice P n pc) (.slice J k kc) (.slice M m mc) (.slice B b bc), .agg #[.string f, .string t]] w fun e w' => e = .returned (.bool (rnB kd n k b ps ks ms f t)) ∧ Below w.heap.size w w' := by
  have A1 := Lib.hid (fun W (h : Below w.heap.size w W) => Pv.rright_all P ps n pc f t W hl (by omega) (Rd.later hP h))
  have A3 := Lib.hid (fun W (h : Below w.heap.size w W) => rright_all M m mc ms W hm hm1 (hM.later h) ho)
  have A4 := Lib.hid (fun W (h : Below w.heap.size w W) => rwithinA_any f t M m mc ms W hm hm1 (hM.later h) ho)
  have JJ := Lib.hid (fun W (h : Below w.heap.size w W) => hJ.later h)
  have HKL := Lib.hid hkl
  clear hl hP hkl hJ hm hm1 hM ho
  have y1 := two_new w (NO kd (.slice P n pc) (.slice J k kc) (.slice M m mc) (.slice B b bc)) (rgc f t)
  have H0 := Lib.hid (bel_alloc (alb w (NO kd (.slice P n pc) (.slice J k kc) (.slice M m mc) (.slice B b bc))) (rgc f t))
  have Z := Lib.hid y1.1
  have Y := Lib.hid y1.2
  clear y1
  obtain ⟨c0, c1, c2, c3, c4⟩ := cells5 Z.out
  obtain ⟨d0, d1, -, -⟩ := has_two Y.out
  have hn0 : (0 : Int) ≤ (n : Int) := by omega
  have hn9 : (n : Int) ≤ 100 := by omega
  have hk0 : (0 : Int) ≤ (k : Int) := by omega
  have hk9 : (k : Int) ≤ 1000 := by omega
  by_cases e1 : kd = 2
  case neg =>
    have h1 : (kd != 2) = true := by simpa using e1
    have FB := Lib.hid (show rnB kd n k b ps ks ms f t = false by unfold rnB; rw [beq_eq_false_iff_ne.2 e1]; rfl)
    clear A3 A4
    go_enter Try.func8, Try.ntmps8
    go_wp2
    go_ret
    exact ⟨by rw [FB.out]; rfl, H0.out⟩
  subst e1
  by_cases e2 : (b : Int) = 0
  case neg =>
    have h2 : ((b : Int) != 0) = true := by simpa using e2
    have h2b : ¬ b = 0 := by omega
    have FB := Lib.hid (show rnB 2 n k b ps ks ms f t = false by unfold rnB; rw [beq_eq_false_iff_ne.2 e2]; rfl)
    clear A3 A4
    go_enter Try.func8, Try.ntmps8
    go_wp2
    go_ret
    exact ⟨by rw [FB.out]; rfl, H0.out⟩
  have h2b : b = 0 := by omega
  subst h2b
  clear e2
  by_cases e3 : (k : Int) = (n : Int) + 1
  case neg =>
    have h3 : ((k : Int) != (n : Int) + 1) = true := by simpa using e3
    have FB := Lib.hid (show rnB 2 n k 0 ps ks ms f t = false by unfold rnB; rw [beq_eq_false_iff_ne.2 e3]; simp)
    clear A3 A4
    go_enter Try.func8, Try.ntmps8
    go_wp2
    go_ret
    exact ⟨by rw [FB.out]; rfl, H0.out⟩
  have h3 : ((k : Int) != (n : Int) + 1) = false := by simpa using e3
  cases e4 : Pv.rightB ps f t
  case false =>
    have FB := Lib.hid (show rnB 2 n k 0 ps ks ms f t = false by unfold rnB; rw [e4]; simp)
    rw [e4] at A1
    clear A3 A4
    go_enter Try.func8, Try.ntmps8
    go_wp2_with (first
      | (go_at_call 32; ((with_reducible refine (A1.out _ H0.out).mono ?_); rintro e w1 ⟨rfl, b1⟩; replace H0 := Lib.hid (bel_trans H0.out b1); replace Z := Lib.hid (keep_bel b1 Z.out); replace Y := Lib.hid (keep_bel b1 Y.out); clear b1 c0 c1 c2 c3 c4 d0 d1; obtain ⟨c0, c1, c2, c3, c4⟩ := cells5 Z.out; obtain ⟨d0, d1, -, -⟩ := has_two Y.out))
      | fail)
    go_ret
    exact ⟨by rw [FB.out]; rfl, H0.out⟩
  rw [e4] at A1
  have NB := Lib.hid (show rnB 2 n k 0 ps ks ms f t = (kidsB ks && (rightB ms && ms.all (wiR f t))) by unfold rnB; rw [e4, beq_iff_eq.2 e3]; rfl)
  have E3 := Lib.hid e3
  clear e4 e3
  go_enter Try.func8, Try.ntmps8
  go_wp2_with (first
    | (go_at_call 32; ((with_reducible refine (A1.out _ H0.out).mono ?_); rintro e w1 ⟨rfl, b1⟩; replace H0 := Lib.hid (bel_trans H0.out b1); replace Z := Lib.hid (keep_bel b1 Z.out); replace Y := Lib.hid (keep_bel b1 Y.out); clear b1 c0 c1 c2 c3 c4 d0 d1; obtain ⟨c0, c1, c2, c3, c4⟩ := cells5 Z.out; obtain ⟨d0, d1, -, -⟩ := has_two Y.out))
    | fail)
  go_loopw [5, 6] (fun iv jv wr => ∃ i : Nat, i ≤ k ∧ iv = .int .i64 i ∧ kidsK ks i = true ∧ wr.heap[w.heap.size]? = some (NO 2 (.slice P n pc) (.slice J k kc) (.slice M m mc) (.slice B 0 bc)) ∧ wr.heap[w.heap.size + 1]? = some (rgc f t) ∧ Below w.heap.size w wr) (fun i _ _ => k - (intOf i).toNat)
  case atStart => exact ⟨0, Nat.zero_le _, rfl, rfl, Z.out, Y.out, H0.out⟩
  case round =>
    obtain ⟨i, hi, rfl, hki, hz, hy, hb⟩ := hrel
    clear c0 c1 c2 c3 c4 d0 d1
    replace Z := Lib.hid hz
    replace Y := Lib.hid hy
    replace H0 := Lib.hid hb
    have HKI := Lib.hid hki
    clear hz hy hb hki
    obtain ⟨c0, c1, c2, c3, c4⟩ := cells5 Z.out
    obtain ⟨d0, d1, -, -⟩ := has_two Y.out
    have hi0 : (0 : Int) ≤ (i : Int) := by omega
    have hi9 : (i : Int) ≤ 1000 := by omega
    by_cases hik : i < k
    · have hlt : (i : Int) < (k : Int) := by omega
      obtain ⟨x, hx⟩ : ∃ x, ks[i]? = some x := ⟨_, List.getElem?_eq_getElem (by rw [HKL.out]; exact hik)⟩
      obtain ⟨b0, off, rfl, hlt0, k0⟩ := ei_at (JJ.out _ H0.out) hx
      have NX : Hid (kidsK ks (i + 1) = kidB (ks.take i) x) := Lib.hid (by rw [kids_at hx, HKI.out]; rfl)
      have FF : Hid (kidB (ks.take i) x = false → rnB 2 n k 0 ps ks ms f t = false) := Lib.hid (fun h => by rw [NB.out, show kidsB ks = false from kids_less (NX.out.trans h) _ (by rw [HKL.out]; omega)]; rfl)
      have HX := Lib.hid hx
      clear hx hlt0
      by_cases x1 : x < 1
      · have FB := Lib.hid (FF.out (by unfold kidB; rw [decide_eq_false (by omega)]; rfl))
        go_wp2
        go_ret
        exact ⟨by rw [FB.out]; rfl, H0.out⟩
      · by_cases x2 : x > 4096
        · have x3 : 4096 < x := x2
          have FB := Lib.hid (FF.out (by unfold kidB; rw [decide_eq_false (p := x ≤ 4096) (by omega)]; simp))
          go_wp2
          go_ret
          exact ⟨by rw [FB.out]; rfl, H0.out⟩
        · have x3 : ¬ 4096 < x := x2
          have KX := Lib.hid (show ∀ c, (ks.take i).contains x = c → kidB (ks.take i) x = !c by intro c hc; unfold kidB; rw [decide_eq_true (p := 1 ≤ x) (by omega), decide_eq_true (p := x ≤ 4096) (by omega), hc]; simp)
          go_wp2
          go_loopw [6] (fun jv wv => ∃ j : Nat, j ≤ i ∧ jv = .int .i64 j ∧ (ks.take j).contains x = false ∧ wv.heap[w.heap.size]? = some (NO 2 (.slice P n pc) (.slice (some ⟨b0, off, none⟩) k kc) (.slice M m mc) (.slice B 0 bc)) ∧ wv.heap[w.heap.size + 1]? = some (rgc f t) ∧ Below w.heap.size w wv) (fun j _ => i - (intOf j).toNat)
          case atStart => exact ⟨0, Nat.zero_le _, rfl, by simp, Z.out, Y.out, H0.out⟩
          case round =>
            obtain ⟨j, hj, rfl, hkj, hz, hy, hb⟩ := hrel
            clear c0 c1 c2 c3 c4 d0 d1 k0
            replace Z := Lib.hid hz
            replace Y := Lib.hid hy
            replace H0 := Lib.hid hb
            have HKJ := Lib.hid hkj
            clear hz hy hb hkj
            obtain ⟨c0, c1, c2, c3, c4⟩ := cells5 Z.out
            obtain ⟨d0, d1, -, -⟩ := has_two Y.out
            have hj0 : (0 : Int) ≤ (j : Int) := by omega
            have hj9 : (j : Int) ≤ 1000 := by omega
            by_cases hji : j < i
            · have hjl : (j : Int) < (i : Int) := by omega
              have hjk : (j : Int) < (k : Int) := by omega
              obtain ⟨y, hy⟩ : ∃ y, ks[j]? = some y := ⟨_, List.getElem?_eq_getElem (by rw [HKL.out]; omega)⟩
              obtain ⟨b1, off1, e5, _, k1⟩ := ei_at (JJ.out _ H0.out) hy
              cases e5
              obtain ⟨b2, off2, e6, _, k2⟩ := ei_at (JJ.out _ H0.out) HX.out
              cases e6
              have TK := Lib.hid (show (ks.take (j + 1)).contains x = (x == y) by
                have e := List.take_add_one (l := ks) (i := j)
                rw [hy] at e
                rw [e, List.contains_append, HKJ.out, Bool.false_or, Bool.eq_iff_iff]
                simp)
              clear hy
              cases hxy : (y == x)
              · have hxy2 : (y == x) = false := hxy
                have hxy3 : ¬ y = x := by simpa using hxy
                go_wp2_with fail
                go_quiet (fail)
                go_wp2
                exact ⟨⟨j + 1, by omega, by simp, by rw [TK.out]; simpa using fun h => hxy3 h.symm, Z.out, Y.out, bel_drewN H0.out _⟩, by simp [intOf]; omega⟩
              · have hxy3 : y = x := by simpa using hxy
                have FB := Lib.hid (FF.out (by
                  rw [KX.out true (by
                    rw [List.contains_iff_mem]
                    have : x ∈ ks.take (j + 1) := by rw [← List.contains_iff_mem, TK.out]; simp [hxy3]
                    exact List.mem_of_mem_take (i := j + 1) (by rw [List.take_take]; rw [Nat.min_eq_left (by omega)]; exact this))]
                  rfl))
                go_wp2_with fail
                go_quiet (fail)
                go_wp2
                go_ret
                exact ⟨by rw [FB.out]; rfl, bel_drewN H0.out _⟩
            · have hjl : ¬ (j : Int) < (i : Int) := by omega
              have e : j = i := by omega
              subst e
              have FB := Lib.hid (show kidsK ks (j + 1) = true by rw [NX.out, KX.out _ HKJ.out]; rfl)
              go_wp2
              exact ⟨⟨j + 1, by omega, by simp, FB.out, Z.out, Y.out, H0.out⟩, by simp [intOf]; omega⟩
    · have hlt : ¬ (i : Int) < (k : Int) := by omega
      have e : i = k := by omega
      have KB : kidsB ks = true := by unfold kidsB; rw [HKL.out, ← e]; exact HKI.out
      rw [KB] at NB
      cases r1 : rightB ms
      · rw [r1] at NB A3
        go_wp2_with (first
          | (go_at_call 33; ((with_reducible refine (A3.out _ H0.out).mono ?_); rintro e w1 ⟨rfl, b1⟩; replace H0 := Lib.hid (bel_trans H0.out b1); replace Z := Lib.hid (keep_bel b1 Z.out); replace Y := Lib.hid (keep_bel b1 Y.out); clear b1 c0 c1 c2 c3 c4 d0 d1; obtain ⟨c0, c1, c2, c3, c4⟩ := cells5 Z.out; obtain ⟨d0, d1, -, -⟩ := has_two Y.out))
          | fail)
        go_ret
        exact ⟨by rw [NB.out]; rfl, H0.out⟩
      · rw [r1] at NB A3
        cases r2 : ms.all (wiR f t)
        all_goals
          rw [r2] at NB A4
          go_wp2_with (first
            | (go_at_call 33; ((with_reducible refine (A3.out _ H0.out).mono ?_); rintro e w1 ⟨rfl, b1⟩; replace H0 := Lib.hid (bel_trans H0.out b1); replace Z := Lib.hid (keep_bel b1 Z.out); replace Y := Lib.hid (keep_bel b1 Y.out); clear b1 c0 c1 c2 c3 c4 d0 d1; obtain ⟨c0, c1, c2, c3, c4⟩ := cells5 Z.out; obtain ⟨d0, d1, -, -⟩ := has_two Y.out))
            | (go_at_call 34; ((with_reducible refine (A4.out _ H0.out).mono ?_); rintro e w1 ⟨rfl, b1⟩; replace H0 := Lib.hid (bel_trans H0.out b1); replace Z := Lib.hid (keep_bel b1 Z.out); replace Y := Lib.hid (keep_bel b1 Y.out); clear b1 c0 c1 c2 c3 c4 d0 d1; obtain ⟨c0, c1, c2, c3, c4⟩ := cells5 Z.out; obtain ⟨d0, d1, -, -⟩ := has_two Y.out))
            | fail)
          go_ret
          exact ⟨by rw [NB.out]; rfl, H0.out⟩
end Go.Proofs.Ytilnpeekajnlhaa
namespace Go.Proofs.Ytilnpeekajnlhaa.Pv
open Go.RowKit

set_option maxHeartbeats 1000000 in
theorem sameS_eq (A B : Option Addr) (p : List ByteArray) (n c c' : Nat) (w : World) (hl : p.length = n) (hn : n ≤ 100000) (hA : RdS w A p) (hB : RdS w B p) :
    Calls Try.prog 41 #[.slice A n c, .slice B n c'] w fun e w' => e = .returned (.bool true) ∧ Below w.heap.size w w' := by
  have HA := Lib.hid hA
  have HB := Lib.hid hB
  have HL := Lib.hid hl
  clear hA hB hl
  go_enter Try.func41, Try.ntmps41
  go_wp2
  go_loopw [5] (fun iv wr => ∃ k d : Nat, k ≤ n ∧ iv = .int .i64 k ∧ wr = w.drewN d) (fun i _ => n - (intOf i).toNat)
  case atStart => exact ⟨0, 0, by omega, rfl, rfl⟩
  case round =>
    obtain ⟨k, d, hk, rfl, hwr⟩ := hrel
    have HW := Lib.hid hwr
    clear hwr
    by_cases h8 : k < n
    · have i1 : (k : Int) < (n : Int) := by omega
      have i0 : (0 : Int) ≤ (k : Int) := by omega
      obtain ⟨b, off, rfl, hlt, f0⟩ := rds_get HA.out (k := k) (by have := HL.out; omega)
      obtain ⟨b2, off2, rfl, hlt2, f2⟩ := rds_get HB.out (k := k) (by have := HL.out; omega)
      have g0 : wr.cell? ⟨b, off + k, none⟩ = some (.string (at_ p k)) := by rw [HW.out]; exact f0
      have g2 : wr.cell? ⟨b2, off2 + k, none⟩ = some (.string (at_ p k)) := by rw [HW.out]; exact f2
      generalize at_ p k = x at g0 g2
      clear f0 f2
      go_wp2_with fail
      go_quiet (fail)
      go_wp2
      exact ⟨⟨k + 1, d + nq, by omega, by simp, by rw [HW.out, World.drewN_drewN]⟩, by simp [intOf]; omega⟩
    · have i1 : ¬ (k : Int) < (n : Int) := by omega
      go_wp2
      go_ret
      exact ⟨rfl, by rw [HW.out]; exact bel_drewN (Below.refl _ _) d⟩

end Go.Proofs.Ytilnpeekajnlhaa.Pv
namespace Go.Proofs.Ytilnpeekajnlhaa
open Go.RowKit Go.Maps
set_option maxRecDepth 100000 in
set_option maxHeartbeats 4000000 in
theorem same14 (kd : Int) (Pa Ja Ma Ba Pb Jb Mb Bb : Option Addr) (n k m pa ja ma ba pb jb mb bb : Nat) (ps : List ByteArray) (ks : List Int) (ms : List MG) (w : World) (hl : ps.length = n) (hn : n ≤ 1000) (hkl : ks.length = k) (hk1 : k ≤ 1000) (hm : ms.length = m) (hm1 : m ≤ 1000)
    (hP : ES.Rd w Pa ps) (hP2 : ES.Rd w Pb ps) (hJ : EI.Rd w Ja ks) (hJ2 : EI.Rd w Jb ks) (hM : EG.Rd w Ma ms) (hM2 : EG.Rd w Mb ms) :
    Calls Try.prog 13 #[NV kd (.slice Pa n pa) (.slice Ja k ja) (.slice Ma m ma) (.slice Ba 0 ba), NV kd (.slice Pb n pb) (.slice Jb k jb) (.slice Mb m mb) (.slice Bb 0 bb)] w fun e w' => e = .returned (.bool true) ∧ Below w.heap.size w w' := by
  have A1 := Lib.hid (fun W (h : Below w.heap.size w W) => Pv.sameS_eq Pa Pb ps n pa pb W hl (by omega) (es_rd.1 (hP.later h)) (es_rd.1 (hP2.later h)))
  have A2 := Lib.hid (fun W (h : Below w.heap.size w W) => same_any Ma Mb m ma mb ms W hm hm1 (hM.later h) (hM2.later h))
  have JJ := Lib.hid (fun W (h : Below w.heap.size w W) => hJ.later h)
  have J2 := Lib.hid (fun W (h : Below w.heap.size w W) => hJ2.later h)
  have HKL := Lib.hid hkl
  clear hl hkl hm hP hP2 hJ hJ2 hM hM2
  have y1 := two_new w (NO kd (.slice Pa n pa) (.slice Ja k ja) (.slice Ma m ma) (.slice Ba 0 ba)) (NO kd (.slice Pb n pb) (.slice Jb k jb) (.slice Mb m mb) (.slice Bb 0 bb))
  have H0 := Lib.hid (bel_alloc (alb w (NO kd (.slice Pa n pa) (.slice Ja k ja) (.slice Ma m ma) (.slice Ba 0 ba))) (NO kd (.slice Pb n pb) (.slice Jb k jb) (.slice Mb m mb) (.slice Bb 0 bb)))
  have Z := Lib.hid y1.1
  have Y := Lib.hid y1.2
  clear y1
  obtain ⟨c0, c1, c2, c3, c4⟩ := cells5 Z.out
  obtain ⟨d0, d1, d2, d3, d4⟩ := cells5 Y.out
  have hk0 : (0 : Int) ≤ (k : Int) := by omega
  have hk9 : (k : Int) ≤ 1000 := by omega
  go_enter Try.func13, Try.ntmps13
  go_wp2
  go_loopw [5] (fun iv wr => ∃ i : Nat, i ≤ k ∧ iv = .int .i64 i ∧ wr.heap[w.heap.size]? = some (NO kd (.slice Pa n pa) (.slice Ja k ja) (.slice Ma m ma) (.slice Ba 0 ba)) ∧ wr.heap[w.heap.size + 1]? = some (NO kd (.slice Pb n pb) (.slice Jb k jb) (.slice Mb m mb) (.slice Bb 0 bb)) ∧ Below w.heap.size w wr) (fun i _ => k - (intOf i).toNat)
  case atStart => exact ⟨0, Nat.zero_le _, rfl, Z.out, Y.out, H0.out⟩
  case round =>
    obtain ⟨i, hi, rfl, hz, hy, hb⟩ := hrel
    clear c0 c1 c2 c3 c4 d0 d1 d2 d3 d4
    replace Z := Lib.hid hz
    replace Y := Lib.hid hy
    replace H0 := Lib.hid hb
    clear hz hy hb
    obtain ⟨c0, c1, c2, c3, c4⟩ := cells5 Z.out
    obtain ⟨d0, d1, d2, d3, d4⟩ := cells5 Y.out
    have hi0 : (0 : Int) ≤ (i : Int) := by omega
    have hi9 : (i : Int) ≤ 1000 := by omega
    by_cases hik : i < k
    · have hlt : (i : Int) < (k : Int) := by omega
      obtain ⟨x, hx⟩ : ∃ x, ks[i]? = some x := ⟨_, List.getElem?_eq_getElem (by rw [HKL.out]; exact hik)⟩
      obtain ⟨b0, off, rfl, _, k0⟩ := ei_at (JJ.out _ H0.out) hx
      obtain ⟨b1, off1, rfl, _, k1⟩ := ei_at (J2.out _ H0.out) hx
      clear hx
      go_wp2_with fail
      go_quiet (fail)
      go_wp2
      exact ⟨⟨i + 1, by omega, by simp, Z.out, Y.out, bel_drewN H0.out _⟩, by simp [intOf]; omega⟩
    · have hlt : ¬ (i : Int) < (k : Int) := by omega
      go_wp2
      go_loopw [6] (fun iv wr => iv = .int .i64 0 ∧ wr.heap[w.heap.size]? = some (NO kd (.slice Pa n pa) (.slice Ja k ja) (.slice Ma m ma) (.slice Ba 0 ba)) ∧ wr.heap[w.heap.size + 1]? = some (NO kd (.slice Pb n pb) (.slice Jb k jb) (.slice Mb m mb) (.slice Bb 0 bb)) ∧ Below w.heap.size w wr) (fun _ _ => 0)
      case atStart => exact ⟨rfl, Z.out, Y.out, H0.out⟩
      case round =>
        obtain ⟨rfl, hz, hy, hb⟩ := hrel
        clear c0 c1 c2 c3 c4 d0 d1 d2 d3 d4
        replace Z := Lib.hid hz
        replace Y := Lib.hid hy
        replace H0 := Lib.hid hb
        clear hz hy hb
        obtain ⟨c0, c1, c2, c3, c4⟩ := cells5 Z.out
        obtain ⟨d0, d1, d2, d3, d4⟩ := cells5 Y.out
        go_wp2_with (first
          | (go_at_call 41; ((with_reducible refine (A1.out _ H0.out).mono ?_); rintro e w1 ⟨rfl, b⟩; replace H0 := Lib.hid (bel_trans H0.out b); replace Z := Lib.hid (keep_bel b Z.out); replace Y := Lib.hid (keep_bel b Y.out); clear b c0 c1 c2 c3 c4 d0 d1 d2 d3 d4; obtain ⟨c0, c1, c2, c3, c4⟩ := cells5 Z.out; obtain ⟨d0, d1, d2, d3, d4⟩ := cells5 Y.out))
          | (go_at_call 11; ((with_reducible refine (A2.out _ H0.out).mono ?_); rintro e w1 ⟨rfl, b⟩; replace H0 := Lib.hid (bel_trans H0.out b); replace Z := Lib.hid (keep_bel b Z.out); replace Y := Lib.hid (keep_bel b Y.out); clear b c0 c1 c2 c3 c4 d0 d1 d2 d3 d4; obtain ⟨c0, c1, c2, c3, c4⟩ := cells5 Z.out; obtain ⟨d0, d1, d2, d3, d4⟩ := cells5 Y.out))
          | fail)
        go_ret
        exact ⟨rfl, H0.out⟩
end Go.Proofs.Ytilnpeekajnlhaa
namespace Go.Proofs.Ytilnpeekajnlhaa
open Go.RowKit Go.Maps
theorem nlt_tr {a b c : ByteArray} (h1 : lt b a = false) (h2 : lt c b = false) : lt c a = false := by
  unfold lt at *
  rcases bl_tri c.toList a.toList with k | k | k
  · rcases bl_tri b.toList a.toList with q | q | q
    · rw [h1] at q; cases q
    · rw [← q] at k; rw [h2] at k; cases k
    · have := bl_trans _ _ _ k q; rw [h2] at this; cases this
  · rw [k]; exact bl_irr _
  · exact bl_asymm _ _ k
theorem bef_tr {a b c : ByteArray} (h1 : bef a b = false) (h2 : bef b c = false) : bef a c = false := by
  unfold bef at *
  cases ea : emp a
  · rw [ea] at h1
    cases eb : emp b
    · rw [eb] at h1 h2
      simp at h1 h2
      cases ec : emp c
      · simp [ec] at h2
        simp [ec, nlt_tr h2 h1]
      · simp [ec] at h2
    · rw [eb] at h1
      simp at h1
  · simp
theorem wi_sub {q x : MG} {f t : ByteArray} (h : SubM q x) (hw : wiR f t x = true) : wiR f t q = true := by
  unfold wiR at hw ⊢
  simp only [Bool.and_eq_true, Bool.not_eq_true'] at hw ⊢
  obtain ⟨h1, h2, h3, h4⟩ := hw
  obtain ⟨k1, k2, k3⟩ := kd_ok h.rc
  exact ⟨k2, h2, nlt_tr h3 h.lo, bef_tr h4 h.hi⟩
theorem resL_wi {xs : List MG} {f t : ByteArray} (hr : rightB xs = true) (hw : xs.all (wiR f t) = true) (a b : ByteArray) : (resL a b xs).all (wiR f t) = true := by
  rw [List.all_eq_true] at hw ⊢
  intro q hq
  obtain ⟨x, hx, hq⟩ := List.mem_flatMap.1 hq
  exact wi_sub ((rest_sub (((right_iff xs).1 hr).1 x hx) a b).1 q hq) (hw x hx)
/-- The rest of a node that is right is right. -/
theorem rest_rn {kd : Int} {n k b : Nat} {ps : List ByteArray} {ks : List Int} {ms : List MG} {f t : ByteArray} (h : RN kd n k b ps ks ms f t) (i : Int) : RN kd n k b ps ks (restL ps f t i ms) f t := by
  refine ⟨h.hkd, h.hb, h.hk, h.hps, h.hks, ?_, ?_⟩
  · unfold restL
    split
    · exact resL_right h.hms _ _
    · exact h.hms
  · unfold restL
    split
    · exact resL_wi h.hms h.hwi _ _
    · exact h.hwi
end Go.Proofs.Ytilnpeekajnlhaa
namespace Go.Proofs.Ytilnpeekajnlhaa
open Go.RowKit Go.Maps
abbrev SzOk (a : ByteArray) : Prop := a.size ≤ 140737488355328
theorem meet_ok {a0 a1 b0 b1 : ByteArray} (h0 : SzOk a0) (h1 : SzOk a1) (k0 : SzOk b0) (k1 : SzOk b1) : SzOk (meetF a0 a1 b0 b1).1 ∧ SzOk (meetF a0 a1 b0 b1).2.1 := by
  unfold meetF
  split
  · split
    · exact ⟨h0, h1⟩
    · unfold meetE
      split
      · refine ⟨?_, ?_⟩
        · show SzOk (maxS a0 b0); unfold maxS; split <;> assumption
        · show SzOk (firstS a1 b1); unfold firstS; split <;> assumption
      · exact ⟨by decide, by decide⟩
  · exact ⟨by decide, by decide⟩
theorem zm_ok : zM.Ok := by refine ⟨?_, ?_, ?_⟩ <;> decide
theorem clip_ok {m : MG} (hm : m.Ok) {a b : ByteArray} (ha : SzOk a) (hb : SzOk b) : (clipM m a b).1.Ok := by
  unfold clipM
  split
  · split
    · exact hm
    · exact zm_ok
  · split
    · split
      · have q := meet_ok hm.1 hm.2.1 ha hb
        exact ⟨q.1, q.2, hm.2.2⟩
      · exact zm_ok
    · exact zm_ok
theorem rest_ok {m : MG} (hm : m.Ok) {a b : ByteArray} (ha : SzOk a) (hb : SzOk b) : OkA (restM m a b) := by
  have q := clip_ok hm ha hb
  intro x hx
  unfold restM restQ at hx
  split at hx
  · split at hx
    · cases hx
    · rw [List.mem_singleton.1 hx]; exact hm
  · split at hx
    · split at hx
      · rcases List.mem_append.1 hx with hx | hx
        · split at hx
          · rw [List.mem_singleton.1 hx]; exact ⟨hm.1, q.1, hm.2.2⟩
          · cases hx
        · split at hx
          · rw [List.mem_singleton.1 hx]; exact ⟨q.2.1, hm.2.1, hm.2.2⟩
          · cases hx
      · rw [List.mem_singleton.1 hx]; exact hm
    · cases hx
theorem forL_ok {xs : List MG} (ho : OkA xs) {a b : ByteArray} (ha : SzOk a) (hb : SzOk b) : OkA (forL a b xs) := by
  intro x hx
  obtain ⟨m, hm, hx⟩ := List.mem_flatMap.1 hx
  split at hx
  · rw [List.mem_singleton.1 hx]; exact clip_ok (ho m hm) ha hb
  · cases hx
theorem resL_ok {xs : List MG} (ho : OkA xs) {a b : ByteArray} (ha : SzOk a) (hb : SzOk b) : OkA (resL a b xs) := by
  intro x hx
  obtain ⟨m, hm, hx⟩ := List.mem_flatMap.1 hx
  exact rest_ok (ho m hm) ha hb x hx

theorem ok_stab {L : List MG} (h : OkA L) : OkA (stab L) := fun x hx => h x (stab_mem hx)
theorem emp_ltR {x y : ByteArray} (h : emp x = true) : lt y x = false := by
  unfold emp at h; rw [List.isEmpty_iff] at h
  unfold lt; rw [h]; exact bl_nil _
theorem meet_lo {ky a b : ByteArray} (h : lt ky a = true) (h2 : sb a b = true) : (meetF ky a a b).2.2 = false := by
  have e : emp a = false := by cases q : emp a; rfl; rw [emp_ltR q] at h; cases h
  have m1 : maxS ky a = a := by unfold maxS; rw [if_pos h]
  have b1 : bef b a = false := by
    unfold bef; unfold sb at h2
    cases q : emp b
    · rw [q, Bool.false_or] at h2; rw [nlt_of_lt h2, e]; rfl
    · rfl
  have f1 : firstS a b = a := by unfold firstS; rw [b1]; rfl
  have s1 : sb a a = false := by unfold sb; rw [e, lt_irr]; rfl
  unfold meetF
  split
  · split
    · rename_i k
      unfold lt at h; rw [k.1, bl_irr] at h; cases h
    · unfold meetE; rw [m1, f1, s1]; rfl
  · rfl
theorem meet_hi {tt a b : ByteArray} (h : bef b tt = true) (h2 : sb a b = true) : (meetF b tt a b).2.2 = false := by
  have e : emp b = false := by cases q : emp b; rfl; unfold bef at h; rw [q] at h; cases h
  have h3 : lt a b = true := by unfold sb at h2; rw [e, Bool.false_or] at h2; exact h2
  have m1 : maxS b a = b := by unfold maxS; rw [nlt_of_lt h3]; rfl
  have f1 : firstS tt b = b := by unfold firstS; rw [if_pos h]
  have s1 : sb b b = false := by unfold sb; rw [e, lt_irr]; rfl
  unfold meetF
  split
  · split
    · rename_i k
      unfold lt at h3; rw [k.1, bl_irr] at h3; cases h3
    · unfold meetE; rw [m1, f1, s1]; rfl
  · rfl
theorem rest_clip {m : MG} {a b : ByteArray} {q : MG} (hq : q ∈ restM m a b) : (clipM q a b).2 = false := by
  unfold restM restQ at hq
  split at hq
  · split at hq
    · cases hq
    · rename_i k
      rw [List.mem_singleton.1 hq]; simpa using k
  · rename_i kp
    split at hq
    · rename_i k4
      split at hq
      · rename_i kq
        have hmf : (meetF m.ky m.to a b).2.2 = true := by
          unfold clipM at kq
          rw [if_neg kp, if_pos k4] at kq
          split at kq
          · assumption
          · cases kq
        have hc : clipM m a b = (overM m (meetF m.ky m.to a b).1 (meetF m.ky m.to a b).2.1, true) := by
          unfold clipM; rw [if_neg kp, if_pos k4, if_pos hmf]
        rw [hc] at hq
        have hcl : ∀ x y : ByteArray, (clipM (overM m x y) a b).2 = (meetF x y a b).2.2 := by
          intro x y
          unfold clipM
          rw [if_neg (show ¬ isPt (overM m x y).kd = true from kp), if_pos (show ((overM m x y).kd == 4) = true from k4)]
          show (if (meetF x y a b).2.2 = true then _ else _ : MG × Bool).2 = _
          split
          · rename_i k; rw [k]
          · rename_i k; exact (show (meetF x y a b).2.2 = false by simpa using k).symm
        have hs : sb a b = true := by
          unfold meetF at hmf
          split at hmf
          · rename_i k; exact k.2
          · cases hmf
        have hxy : ((meetF m.ky m.to a b).1 = m.ky ∧ (meetF m.ky m.to a b).2.1 = m.to) ∨ ((meetF m.ky m.to a b).1 = maxS m.ky a ∧ (meetF m.ky m.to a b).2.1 = firstS m.to b) := by
          unfold meetF meetE
          unfold meetF meetE at hmf
          split
          · split
            · exact .inl ⟨rfl, rfl⟩
            · split
              · exact .inr ⟨rfl, rfl⟩
              · rename_i k1 k2 k3; rw [if_pos k1, if_neg k2, if_neg k3] at hmf; cases hmf
          · rename_i k1; rw [if_neg k1] at hmf; cases hmf
        rcases List.mem_append.1 hq with hq | hq
        · split at hq
          · rename_i kl
            rw [List.mem_singleton.1 hq, hcl]
            rcases hxy with ⟨e, -⟩ | ⟨e, -⟩
            · rw [e] at kl; change lt m.ky m.ky = true at kl; rw [lt_irr] at kl; cases kl
            · rw [e] at kl
              show (meetF m.ky (meetF m.ky m.to a b).1 a b).2.2 = false
              rw [e]
              change lt m.ky (maxS m.ky a) = true at kl
              unfold maxS at kl ⊢
              split at kl
              · rename_i k; rw [if_pos k]; exact meet_lo k hs
              · rw [lt_irr] at kl; cases kl
          · cases hq
        · split at hq
          · rename_i kl
            rw [List.mem_singleton.1 hq, hcl]
            show (meetF (meetF m.ky m.to a b).2.1 m.to a b).2.2 = false
            change bef (meetF m.ky m.to a b).2.1 m.to = true at kl
            have irr : bef m.to m.to = false := by unfold bef; cases emp m.to <;> simp [lt_irr]
            rcases hxy with ⟨-, e⟩ | ⟨-, e⟩
            · rw [e, irr] at kl; cases kl
            · rw [e] at kl ⊢
              unfold firstS at kl ⊢
              split at kl
              · rename_i k; rw [if_pos k]; exact meet_hi k hs
              · rw [irr] at kl; cases kl
          · cases hq
      · rename_i k
        rw [List.mem_singleton.1 hq]; simpa using k
    · cases hq
theorem for_rest (xs : List MG) (a b : ByteArray) : forL a b (resL a b xs) = [] := by
  unfold forL resL
  rw [List.flatMap_eq_nil_iff]
  intro q hq
  obtain ⟨m, hm, hq⟩ := List.mem_flatMap.1 hq
  rw [rest_clip hq]; rfl
theorem kid_rest (ps : List ByteArray) (f t : ByteArray) (i : Int) (ms : List MG) : kidL ps f t i (restL ps f t i ms) = [] := by
  unfold kidL restL
  split
  · exact for_rest _ _ _
  · rfl
theorem span_ok {ps : List ByteArray} {f t : ByteArray} (hp : ∀ x ∈ ps, SzOk x) (hf : SzOk f) (ht : SzOk t) (i : Int) : SzOk (Pv.spanF ps f t i).1 ∧ SzOk (Pv.spanF ps f t i).2 := by
  have z : SzOk emptyS := by decide
  have g : ∀ k, SzOk (Pv.at_ ps k) := by
    intro k
    unfold Pv.at_
    rw [List.getD_eq_getElem?_getD]
    cases q : ps[k]? with
    | none => exact z
    | some x => exact hp x (List.mem_of_getElem? q)
  unfold Pv.spanF
  split
  · unfold Pv.pF Pv.pT
    refine ⟨?_, ?_⟩
    · show SzOk (if 0 < i.toNat then Pv.at_ ps (i.toNat - 1) else f)
      split
      · exact g _
      · exact hf
    · show SzOk (if i.toNat < ps.length then Pv.at_ ps i.toNat else t)
      split
      · exact g _
      · exact ht
  · exact ⟨z, z⟩
theorem restL_ok {ps : List ByteArray} {f t : ByteArray} (hp : ∀ x ∈ ps, SzOk x) (hf : SzOk f) (ht : SzOk t) (i : Int) {ms : List MG} (ho : OkA ms) : OkA (restL ps f t i ms) := by
  unfold restL
  split
  · exact resL_ok ho (span_ok hp hf ht i).1 (span_ok hp hf ht i).2
  · exact ho
theorem kidL_ok {ps : List ByteArray} {f t : ByteArray} (hp : ∀ x ∈ ps, SzOk x) (hf : SzOk f) (ht : SzOk t) (i : Int) {ms : List MG} (ho : OkA ms) : OkA (kidL ps f t i ms) := by
  unfold kidL
  split
  · exact forL_ok ho (span_ok hp hf ht i).1 (span_ok hp hf ht i).2
  · intro x hx; cases hx
theorem restL_len (ps : List ByteArray) (f t : ByteArray) (i : Int) (ms : List MG) : (restL ps f t i ms).length ≤ 2 * ms.length := by
  unfold restL; split
  · exact resL_len _ _ _
  · omega
theorem kidL_len (ps : List ByteArray) (f t : ByteArray) (i : Int) (ms : List MG) : (kidL ps f t i ms).length ≤ ms.length := by
  unfold kidL; split
  · exact forL_len _ _ _
  · simp
end Go.Proofs.Ytilnpeekajnlhaa
namespace Go.Proofs.Ytilnpeekajnlhaa
open Go.RowKit Go.Maps
/-- The greatest weight so far, and where. -/
def hotK (ws : List Int) : Nat → Int × Int
  | 0 => (0, 0)
  | j + 1 => match ws[j]? with
    | some x => if x > (hotK ws j).2 then ((j : Int), x) else hotK ws j
    | none => hotK ws j
set_option maxRecDepth 100000 in
set_option maxHeartbeats 8000000 in
theorem hot_any (kd : Int) (P J M B : Option Addr) (n pc k kc m mc b bc : Nat) (ps : List ByteArray) (ms : List MG) (f t : ByteArray) (w : World) (hl : ps.length = n) (hn : n ≤ 100) (hP : Pv.RdS w P ps) (hm : ms.length = m) (hm0 : m ≠ 0) (hm1 : m ≤ 1000) (hM : EG.Rd w M ms) (ho : OkA ms) (hok : ∀ x ∈ Pv.upto ps f t (Pv.many ps f t), OkA (forL x.2.1 x.2.2 ms)) :
    Calls Try.prog 35 #[NV kd (.slice P n pc) (.slice J k kc) (.slice M m mc) (.slice B b bc), .agg #[.string f, .string t]] w fun e w' => e = .returned (.tuple #[.int .i64 (hotK (wgts ps f t ms) (wgts ps f t ms).length).1, .int .i64 (hotK (wgts ps f t ms) (wgts ps f t ms).length).2]) ∧ Below w.heap.size w w' := by
  have WA := Lib.hid (fun W (h : Below w.heap.size w W) => weights_any kd P J M B n pc k kc m mc b bc ps ms f t W hl hn (Rd.later hP h) hm hm1 (hM.later h) ho hok)
  have HLW : Hid ((wgts ps f t ms).length ≤ 1000) := Lib.hid (by unfold wgts; rw [List.length_map, Pv.upto_length]; have := Pv.many_le ps f t; omega)
  obtain ⟨ws, hws⟩ : ∃ ws, ws = wgts ps f t ms := ⟨_, rfl⟩
  rw [← hws] at WA HLW ⊢
  obtain ⟨L, hL⟩ : ∃ L, L = ws.length := ⟨_, rfl⟩
  rw [← hL] at WA HLW ⊢
  have HL := Lib.hid hL.symm
  have hL9 : (L : Int) ≤ 1000 := by have := HLW.out; omega
  have hL0 : (0 : Int) ≤ (L : Int) := by omega
  have h0 : ((m : Int) == 0) = false := by rw [beq_eq_false_iff_ne]; omega
  have h00 : ¬ (m : Int) = 0 := by omega
  clear hws hL hl hP hm hM ho hok
  have y1 := two_new w (NO kd (.slice P n pc) (.slice J k kc) (.slice M m mc) (.slice B b bc)) (rgc f t)
  have H0 := Lib.hid (bel_alloc (alb w (NO kd (.slice P n pc) (.slice J k kc) (.slice M m mc) (.slice B b bc))) (rgc f t))
  have Z := Lib.hid y1.1
  have Y := Lib.hid y1.2
  clear y1
  obtain ⟨c0, c1, c2, c3, c4⟩ := cells5 Z.out
  obtain ⟨d0, d1, -, -⟩ := has_two Y.out
  go_enter Try.func35, Try.ntmps35
  go_wp2_with (first
    | (go_at_call 70; ((with_reducible refine (WA.out _ H0.out).mono ?_); rintro e w1 ⟨A', c', rfl, r1, b1⟩; have R1 := Lib.hid r1.rd; have B1 := Lib.hid (bel_trans H0.out b1); clear b1 r1 c0 c1 c2 c3 c4 d0 d1))
    | fail)
  go_loopw [6, 7, 8, 9, 20] (fun hv mv iv wv jv wr => ∃ j : Nat, j ≤ L ∧ jv = .int .i64 j ∧ hv = .int .i64 (hotK ws j).1 ∧ mv = .int .i64 (hotK ws j).2 ∧ w1 = wr) (fun _ _ _ _ j _ => L - (intOf j).toNat)
  case atStart => exact ⟨0, Nat.zero_le _, rfl, rfl, rfl, rfl⟩
  case round =>
    obtain ⟨j, hj, rfl, rfl, rfl, rfl⟩ := hrel
    by_cases hjl : j < L
    · have hj1 : (j : Int) < (L : Int) := by omega
      have hj0 : (0 : Int) ≤ (j : Int) := by omega
      have hj9 : (j : Int) ≤ 1000 := by omega
      obtain ⟨x, hx⟩ : ∃ x, ws[j]? = some x := ⟨_, List.getElem?_eq_getElem (by rw [HL.out]; exact hjl)⟩
      obtain ⟨b0, off, rfl, hlt0, k0⟩ := ei_at R1.out hx
      by_cases hg : x > (hotK ws j).2
      · have HN := Lib.hid (show hotK ws (j + 1) = ((j : Int), x) by show (match ws[j]? with | some x => _ | none => _) = _; rw [hx]; exact if_pos hg)
        have hg2 : (hotK ws j).2 < x := hg
        obtain ⟨s, hs⟩ : ∃ s, s = hotK ws j := ⟨_, rfl⟩
        rw [← hs] at hg hg2 ⊢
        clear hs hx hlt0
        go_wp2
        exact ⟨⟨j + 1, by omega, by simp, by rw [HN.out], by rw [HN.out], trivial⟩, by simp [intOf]; omega⟩
      · have HN := Lib.hid (show hotK ws (j + 1) = hotK ws j by show (match ws[j]? with | some x => _ | none => _) = _; rw [hx]; exact if_neg hg)
        have hg2 : ¬ (hotK ws j).2 < x := hg
        obtain ⟨s, hs⟩ : ∃ s, s = hotK ws j := ⟨_, rfl⟩
        rw [← hs] at hg hg2 HN ⊢
        clear hs hx hlt0
        go_wp2
        exact ⟨⟨j + 1, by omega, by simp, by rw [HN.out], by rw [HN.out], trivial⟩, by simp [intOf]; omega⟩
    · have hj1 : ¬ (j : Int) < (L : Int) := by omega
      have e : j = L := by omega
      have HE := Lib.hid e
      clear e
      go_wp2
      go_ret2
      exact ⟨by rw [HE.out]; rfl, B1.out⟩
end Go.Proofs.Ytilnpeekajnlhaa
namespace Go.Proofs.Ytilnpeekajnlhaa
open Go.RowKit Go.Maps
abbrev jA : ByteArray := ⟨#[97]⟩
abbrev jB : ByteArray := ⟨#[98]⟩
abbrev jM : ByteArray := ⟨#[109]⟩
abbrev jZ : ByteArray := ⟨#[122]⟩
abbrev q1 : MG := ⟨4, 1, jA, jZ, emptyS, 0⟩
abbrev q2 : MG := ⟨1, 2, jB, emptyS, emptyS, 0⟩
abbrev q3 : MG := ⟨4, 1, jA, jM, emptyS, 0⟩
abbrev q4 : MG := ⟨4, 1, jM, jZ, emptyS, 0⟩
abbrev jp : List ByteArray := [jM]
theorem lv_ok : OkA [q1, q2] := by
  intro x hx
  simp at hx
  rcases hx with rfl | rfl <;> refine ⟨?_, ?_, ?_⟩ <;> decide
theorem lv_ok3 : OkA [q3, q2] := by
  intro x hx
  simp at hx
  rcases hx with rfl | rfl <;> refine ⟨?_, ?_, ?_⟩ <;> decide
theorem lv_ok4 : OkA [q4] := by
  intro x hx
  simp at hx
  subst hx
  refine ⟨?_, ?_, ?_⟩ <;> decide
theorem lv_for0 : forL emptyS jM [q1, q2] = [q3, q2] := by
  have e1 : clipM q1 emptyS jM = (q3, true) := by
    simp [clipM, isPt, meetF, meetE, sb, emp, lt, maxS, firstS, bef, toList_eq, Op.bytesLess, overM]
  have e2 : clipM q2 emptyS jM = (q2, true) := by
    simp [clipM, isPt, sb, has, emp, lt, toList_eq, Op.bytesLess]
  simp [forL, e1, e2]
theorem lv_for1 : forL jM emptyS [q1, q2] = [q4] := by
  have e1 : clipM q1 jM emptyS = (q4, true) := by
    simp [clipM, isPt, meetF, meetE, sb, emp, lt, maxS, firstS, bef, toList_eq, Op.bytesLess, overM]
  have e2 : (clipM q2 jM emptyS).2 = false := by
    simp [clipM, isPt, sb, has, emp, lt, toList_eq, Op.bytesLess]
  simp [forL, e1, e2]
theorem lv_rightM : rightB [q1, q2] = true := by
  refine right_yes (fun i hi => ?_)
  have : i = 0 ∨ i = 1 := by simp at hi; omega
  rcases this with rfl | rfl
  · rw [rcI_zero rfl]; simp [rcX, isPt, sb, spF, spT, emp, lt, toList_eq, Op.bytesLess]
  · rw [rcI_succ (p := q1) (x := q2) rfl rfl]; simp [rcX, rcP, aheadM, isPt, sb, spF, spT, emp, lt, toList_eq, Op.bytesLess]
theorem lv_rightP : Pv.rightB jp emptyS emptyS = true := by
  simp [Pv.rightB, Pv.inK, Pv.risesB, Pv.riseK, Pv.at_, sb, emp, lt, ByteArray.toList_eq, Op.bytesLess]
theorem lv_many : Pv.many jp emptyS emptyS = 2 := by unfold Pv.many; rw [if_pos lv_rightP]; rfl
theorem lv_upto : Pv.upto jp emptyS emptyS 2 = [(0, emptyS, jM), (1, jM, emptyS)] := by
  simp [Pv.upto, Pv.prtOf, Pv.pF, Pv.pT, Pv.at_, List.range_succ]
theorem lv_wgts : wgts jp emptyS emptyS [q1, q2] = [35, 18] := by
  unfold wgts
  rw [lv_many, lv_upto]
  show [wgt _ _, wgt _ _] = _
  have e0 : wgt [q1, q2] (0, emptyS, jM) = 35 := by show byN (forL emptyS jM [q1, q2]) = 35; rw [lv_for0]; rfl
  have e1 : wgt [q1, q2] (1, jM, emptyS) = 18 := by show byN (forL jM emptyS [q1, q2]) = 18; rw [lv_for1]; rfl
  rw [e0, e1]
theorem lv_hok : ∀ x ∈ Pv.upto jp emptyS emptyS (Pv.many jp emptyS emptyS), OkA (forL x.2.1 x.2.2 [q1, q2]) := by
  rw [lv_many, lv_upto]
  intro x hx
  simp at hx
  rcases hx with rfl | rfl
  · show OkA (forL emptyS jM [q1, q2]); rw [lv_for0]; exact lv_ok3
  · show OkA (forL jM emptyS [q1, q2]); rw [lv_for1]; exact lv_ok4
theorem lv_hot : hotK [35, 18] 2 = (0, 35) := by decide
theorem lv_prt : Pv.prt jp jM = 1 := by simp [Pv.prt, Pv.prtK, Pv.at_, lt, ByteArray.toList_eq, Op.bytesLess]
theorem lv_wi : [q1, q2].all (wiR emptyS emptyS) = true := by
  simp [wiR, sb, spF, spT, isPt, emp, lt, bef, toList_eq, Op.bytesLess]
theorem lv_kids : kidsB [5, 6] = true := by decide
theorem lv_kid : kidL jp emptyS emptyS 0 [q1, q2] = [q3, q2] := by
  have e : Pv.spanB jp emptyS emptyS 0 = true := by unfold Pv.spanB; rw [lv_rightP]; rfl
  unfold kidL Pv.spanF
  rw [if_pos e, if_pos e]
  exact lv_for0
theorem lv_rn : RN 2 1 2 0 jp [5, 6] [q1, q2] emptyS emptyS := ⟨rfl, rfl, rfl, lv_rightP, lv_kids, lv_rightM, lv_wi⟩
end Go.Proofs.Ytilnpeekajnlhaa
