/- Texts of the proof, one behind the other. -/
import Derived.Test.YtilnpeekajnlhaaTk15
import Derived.Deep.RegionHeld3
import Derived.Test.YtilnpeekajnlhaaTk06
import Derived.Test.YtilnpeekajnlhaaTk26
import Derived.Test.YtilnpeekajnlhaaTk14
set_option linter.unusedVariables false
set_option linter.unusedSimpArgs false
namespace Go.Proofs.Ytilnpeekajnlhaa
open Go.RowKit Go.Maps
theorem bel_dw {B : Nat} {a w : World} (h : Below B a w) : Below B a w.drew := ⟨h.os, h.tape, h.output, h.size, h.block⟩
set_option maxRecDepth 100000 in
set_option maxHeartbeats 8000000 in
theorem rfor14 (kd : Int) (P J M B : Option Addr) (n pc k kc m mc b bc : Nat) (ps : List ByteArray) (ms : List MG) (f t : ByteArray) (i : Int) (w : World) (hl : ps.length = n) (hn : n ≤ 100) (hP : Pv.RdS w P ps) (hr : Pv.rightB ps f t = true) (hm : ms.length = m) (hm1 : m ≤ 400) (hM : EG.Rd w M ms) (hms : rightB ms = true) :
    Calls Try.prog 12 #[NV kd (.slice P n pc) (.slice J k kc) (.slice M m mc) (.slice B b bc), .agg #[.string f, .string t], .int .i64 i] w (RowsOf (kidL ps f t i ms) w) := by
  have AL := Lib.hid (fun W (h : Below w.heap.size w W) => Pv.rspans_any P ps n pc f t W hl (by omega) (Rd.later hP h))
  have FA := Lib.hid (fun x y W (h : Below w.heap.size w W) => rfor_any x y M m mc ms W hm (by omega) (hM.later h))
  have HMM := Lib.hid (show ∀ W, Below w.heap.size w W → EG.Rd W M ms from fun W h => hM.later h)
  have HML := Lib.hid hm
  have HLN : Hid ((Pv.parts ps f t).length ≤ 101) := Lib.hid (by unfold Pv.parts; rw [List.length_map, List.length_range]; have := Pv.many_le ps f t; omega)
  clear hl hP hm hM hms
  have y1 := two_new w (NO kd (.slice P n pc) (.slice J k kc) (.slice M m mc) (.slice B b bc)) (rgc f t)
  have H0 := Lib.hid (bel_alloc (alb w (NO kd (.slice P n pc) (.slice J k kc) (.slice M m mc) (.slice B b bc))) (rgc f t))
  have Z := Lib.hid y1.1
  have Y := Lib.hid y1.2
  clear y1
  obtain ⟨c0, c1, c2, c3, c4⟩ := cells5 Z.out
  obtain ⟨d0, d1, -, -⟩ := has_two Y.out
  cases hs : Pv.spanB ps f t i
  · have hf := parts_far hr hs
    have HL : Hid (kidL ps f t i ms = []) := Lib.hid (by unfold kidL; rw [hs]; rfl)
    rw [HL.out]
    obtain ⟨q, hq⟩ : ∃ q, q = (Pv.parts ps f t).length := ⟨_, rfl⟩
    rw [← hq] at hf
    have HQ := Lib.hid hq
    unfold Pv.RSpansPost at AL
    rw [← hq] at AL
    clear hs hq hr
    by_cases hi : i < 0
    · go_enter Try.func12, Try.ntmps12
      go_wp2_with (first
        | (go_at_call 39; ((with_reducible refine (AL.out _ H0.out).mono ?_); rintro e w1 ⟨A1, a1, rfl, r1, b⟩; have H1 := Lib.hid (bel_trans H0.out b); replace Z := Lib.hid (keep_bel b Z.out); clear b r1 c0 c1 c2 c3 c4; obtain ⟨c0, c1, c2, c3, c4⟩ := cells5 Z.out))
        | fail)
      go_ret
      exact ⟨⟨_, _, rfl, .inl rfl⟩, bel_alloc H1.out _⟩
    · have hi2 : i ≥ (q : Int) := by omega
      have hi3 : (q : Int) ≤ i := hi2
      go_enter Try.func12, Try.ntmps12
      go_wp2_with (first
        | (go_at_call 39; ((with_reducible refine (AL.out _ H0.out).mono ?_); rintro e w1 ⟨A1, a1, rfl, r1, b⟩; have H1 := Lib.hid (bel_trans H0.out b); replace Z := Lib.hid (keep_bel b Z.out); clear b r1 c0 c1 c2 c3 c4; obtain ⟨c0, c1, c2, c3, c4⟩ := cells5 Z.out))
        | fail)
      go_ret
      exact ⟨⟨_, _, rfl, .inl rfl⟩, bel_alloc H1.out _⟩
  · obtain ⟨j, rfl, hjl, hj⟩ := parts_at hs
    have hx : kidL ps f t (j : Int) ms = forL (Pv.spanF ps f t j).1 (Pv.spanF ps f t j).2 ms := by unfold kidL; rw [if_pos hs]
    rw [hx]
    obtain ⟨⟨x, y⟩, hxy⟩ : ∃ z, z = Pv.spanF ps f t j := ⟨_, rfl⟩
    rw [← hxy] at hj ⊢
    have HJ := Lib.hid hj
    have hlt := hjl
    obtain ⟨q, hq⟩ : ∃ q, q = (Pv.parts ps f t).length := ⟨_, rfl⟩
    have HQ9 : q ≤ 101 := by rw [hq]; exact HLN.out
    unfold Pv.RSpansPost at AL
    rw [← hq] at AL hlt
    clear hs hx hxy hj hjl hq hr
    have hi0 : ¬ (j : Int) < 0 := by omega
    have hi1 : ¬ (j : Int) ≥ (q : Int) := by omega
    have hi2 : ¬ (q : Int) ≤ (j : Int) := by omega
    have hi3 : (j : Int) < (q : Int) := by omega
    have hi4 : (0 : Int) ≤ (j : Int) := by omega
    go_enter Try.func12, Try.ntmps12
    go_wp2_with (first
      | (go_at_call 39; ((with_reducible refine (AL.out _ H0.out).mono ?_); rintro e w1 ⟨A1, a1, rfl, r1, b⟩; obtain ⟨b0, off, rfl, k1, k2⟩ := rdp_get r1 HJ.out; have K1 := Lib.hid k1; have K2 := Lib.hid k2; have H1 := Lib.hid (bel_dw (bel_trans H0.out b)); have Z1 := Lib.hid (keep_bel b Z.out); clear b r1 c0 c1 c2 c3 c4 d0 d1 k1 k2))
      | fail)
    replace Z1 := Lib.hid (show w1.drew.heap[w.heap.size]? = some (NO kd (.slice P n pc) (.slice J k kc) (.slice M m mc) (.slice B b bc)) from Z1.out)
    replace K1 := Lib.hid (show w1.drew.cell? ⟨b0, off + j * 2, none⟩ = some (.string x) from K1.out)
    replace K2 := Lib.hid (show w1.drew.cell? ⟨b0, off + j * 2 + 1, none⟩ = some (.string y) from K2.out)
    refine wp_region_held_drew (S := (fun V : World => V.heap[w.heap.size]? = some (NO kd (.slice P n pc) (.slice J k kc) (.slice M m mc) (.slice B b bc)) ∧ V.cell? ⟨b0, off + j * 2, none⟩ = some (.string x) ∧ V.cell? ⟨b0, off + j * 2 + 1, none⟩ = some (.string y))) (by kernel_rfl) ?_ (fun hHeld => ?_)
    · exact ⟨Z1.out, K1.out, K2.out⟩
    have HHeld := Lib.hid hHeld; clear hHeld
    refine wpAnyH_take (i := 0) (oi := { dst := some 21, op := Op.fieldAddr 28 (Operand.tmp 3) 3, type := 0, pos := "ref.go:46", after := #[], guard := none }) (v := ?_) rfl (by kernel_rfl) (by kernel_rfl) (by kernel_rfl) (fun _ _ _ h => h) (Or.inl ⟨by rfl, ?_⟩) HHeld.out ?_
    rotate_left
    · intro w hSw; clear hSw; go_simp; try with_reducible rfl
    try simp only [Act.put, List.setIfInBounds_toArray, List.set_cons_zero, List.set_cons_succ]
    refine wpAnyH_take (i := 1) (oi := { dst := some 22, op := Op.load 25 (Operand.tmp 21), type := 25, pos := "ref.go:46", after := #[{ on := 0, ground := Ground.data }], guard := none }) (v := (.slice M m mc : Value)) rfl (by kernel_rfl) (by kernel_rfl) (by kernel_rfl) (fun _ _ _ h => h) (Or.inl ⟨by rfl, ?_⟩) HHeld.out ?_
    · intro V hV; have hc0 := (cells5 hV.1).2.2.2.1; clear hV; go_simp
    try simp only [Act.put, List.setIfInBounds_toArray, List.set_cons_zero, List.set_cons_succ]
    refine wpAnyH_take (i := 2) (oi := { dst := some 23, op := Op.move (Operand.tmp 7), type := 73, pos := "ref.go:46", after := #[], guard := none }) (v := ?_) rfl (by kernel_rfl) (by kernel_rfl) (by kernel_rfl) (fun _ _ _ h => h) (Or.inl ⟨by rfl, ?_⟩) HHeld.out ?_
    rotate_left
    · intro w hSw; clear hSw; go_simp; try with_reducible rfl
    try simp only [Act.put, List.setIfInBounds_toArray, List.set_cons_zero, List.set_cons_succ]
    refine wpAnyH_take (i := 3) (oi := { dst := some 24, op := Op.move (Operand.tmp 2), type := 3, pos := "ref.go:46", after := #[], guard := none }) (v := ?_) rfl (by kernel_rfl) (by kernel_rfl) (by kernel_rfl) (fun _ _ _ h => h) (Or.inl ⟨by rfl, ?_⟩) HHeld.out ?_
    rotate_left
    · intro w hSw; clear hSw; go_simp; try with_reducible rfl
    try simp only [Act.put, List.setIfInBounds_toArray, List.set_cons_zero, List.set_cons_succ]
    refine wpAnyH_take (i := 4) (oi := { dst := some 25, op := Op.indexAddr 73 (Operand.tmp 23) (Operand.tmp 24), type := 0, pos := "ref.go:46", after := #[{ on := 2, ground := Ground.data }, { on := 3, ground := Ground.data }], guard := none }) (v := ?_) rfl (by kernel_rfl) (by kernel_rfl) (by kernel_rfl) (fun _ _ _ h => h) (Or.inl ⟨by rfl, ?_⟩) HHeld.out ?_
    rotate_left
    · intro w hSw; clear hSw; go_simp; try with_reducible rfl
    try simp only [Act.put, List.setIfInBounds_toArray, List.set_cons_zero, List.set_cons_succ]
    refine wpAnyH_take (i := 5) (oi := { dst := some 26, op := Op.load 30 (Operand.tmp 25), type := 30, pos := "ref.go:46", after := #[{ on := 4, ground := Ground.data }], guard := none }) (v := (.agg #[.string x, .string y] : Value)) rfl (by kernel_rfl) (by kernel_rfl) (by kernel_rfl) (fun _ _ _ h => h) (Or.inl ⟨by rfl, ?_⟩) HHeld.out ?_
    · intro V hV; have hc0 := hV.2.1; have hc1 := hV.2.2; clear hV; go_simp
    try simp only [Act.put, List.setIfInBounds_toArray, List.set_cons_zero, List.set_cons_succ]
    refine wpAnyH_ready (rs := [6]) (by kernel_rfl) (by simp) ?_
    refine AllReadyH.cons (o := { dst := some 27, op := Op.call { callee := Callee.value (Operand.func 40), args := #[Operand.tmp 22, Operand.tmp 26], argTypes := #[25, 30] }, type := 25, pos := "ref.go:46", after := #[{ on := 1, ground := Ground.data }, { on := 5, ground := Ground.data }], guard := none }) rfl (fun K hK => ?_) AllReadyH.nil
    go_simp
    go_at_call 40
    with_reducible refine (FA.out x y _ H1.out).mono ?_
    rintro e w2 ⟨⟨A2, c2, rfl, r2⟩, b⟩
    have R2 := Lib.hid r2; have B2 := Lib.hid (bel_trans H1.out b); have K0 := Lib.hid (keep_bel b Z1.out); have K1 := Lib.hid (bel_later b K1.out); have K2 := Lib.hid (bel_later b K2.out); clear b r2
    refine hK.out _ _ ?_ (fun hHeld => ?_)
    · exact ⟨K0.out, K1.out, K2.out⟩
    clear HHeld; have HHeld := Lib.hid hHeld; clear hHeld
    clear hK K
    try simp only [Act.put, List.setIfInBounds_toArray, List.set_cons_zero, List.set_cons_succ]
    refine wpAnyH_take (i := 7) (oi := { dst := some 6, op := Op.assign (Operand.tmp 27), type := 25, pos := "ref.go:46", after := #[{ on := 6, ground := Ground.data }, { on := 6, ground := Ground.chain }, { on := 0, ground := Ground.phase }, { on := 1, ground := Ground.phase }, { on := 2, ground := Ground.phase }, { on := 3, ground := Ground.phase }, { on := 4, ground := Ground.phase }, { on := 5, ground := Ground.phase }, { on := 6, ground := Ground.phase }], guard := none }) (v := ?_) rfl (by kernel_rfl) (by kernel_rfl) (by kernel_rfl) (fun _ _ _ h => h) (Or.inl ⟨by rfl, ?_⟩) HHeld.out ?_
    rotate_left
    · intro w hSw; clear hSw; go_simp; try with_reducible rfl
    try simp only [Act.put, List.setIfInBounds_toArray, List.set_cons_zero, List.set_cons_succ]
    refine wpAnyH_done (by kernel_rfl) ?_ _
    clear HHeld
    go_wp2
    go_ret
    exact ⟨⟨A2, c2, rfl, R2.out⟩, B2.out⟩
set_option maxRecDepth 100000 in
set_option maxHeartbeats 8000000 in
theorem rrest14 (kd : Int) (P J M B : Option Addr) (n pc k kc m mc b bc : Nat) (ps : List ByteArray) (ms : List MG) (f t : ByteArray) (i : Int) (w : World) (hl : ps.length = n) (hn : n ≤ 100) (hP : Pv.RdS w P ps) (hr : Pv.rightB ps f t = true) (hm : ms.length = m) (hm1 : m ≤ 400) (hM : EG.Rd w M ms) (hms : rightB ms = true) :
    Calls Try.prog 15 #[NV kd (.slice P n pc) (.slice J k kc) (.slice M m mc) (.slice B b bc), .agg #[.string f, .string t], .int .i64 i] w (RowsOf (restL ps f t i ms) w) := by
  have AL := Lib.hid (fun W (h : Below w.heap.size w W) => Pv.rspans_any P ps n pc f t W hl (by omega) (Rd.later hP h))
  have FA := Lib.hid (fun x y W (h : Below w.heap.size w W) => rres_any x y M m mc ms W hm hm1 (hM.later h) (fun k _ => acc_right (resL_right (right_take hms k) x y)))
  have HMM := Lib.hid (show ∀ W, Below w.heap.size w W → EG.Rd W M ms from fun W h => hM.later h)
  have HML := Lib.hid hm
  have HLN : Hid ((Pv.parts ps f t).length ≤ 101) := Lib.hid (by unfold Pv.parts; rw [List.length_map, List.length_range]; have := Pv.many_le ps f t; omega)
  clear hl hP hm hM hms
  have y1 := two_new w (NO kd (.slice P n pc) (.slice J k kc) (.slice M m mc) (.slice B b bc)) (rgc f t)
  have H0 := Lib.hid (bel_alloc (alb w (NO kd (.slice P n pc) (.slice J k kc) (.slice M m mc) (.slice B b bc))) (rgc f t))
  have Z := Lib.hid y1.1
  have Y := Lib.hid y1.2
  clear y1
  obtain ⟨c0, c1, c2, c3, c4⟩ := cells5 Z.out
  obtain ⟨d0, d1, -, -⟩ := has_two Y.out
  cases hs : Pv.spanB ps f t i
  · have hf := parts_far hr hs
    have HL : Hid (restL ps f t i ms = ms) := Lib.hid (by unfold restL; rw [hs]; rfl)
    rw [HL.out]
    obtain ⟨q, hq⟩ : ∃ q, q = (Pv.parts ps f t).length := ⟨_, rfl⟩
    rw [← hq] at hf
    have HQ := Lib.hid hq
    unfold Pv.RSpansPost at AL
    rw [← hq] at AL
    clear hs hq hr
    by_cases hi : i < 0
    · go_enter Try.func15, Try.ntmps15
      go_wp2_with (first
        | (go_at_call 39; ((with_reducible refine (AL.out _ H0.out).mono ?_); rintro e w1 ⟨A1, a1, rfl, r1, b⟩; have H1 := Lib.hid (bel_trans H0.out b); replace Z := Lib.hid (keep_bel b Z.out); clear b r1 c0 c1 c2 c3 c4; obtain ⟨c0, c1, c2, c3, c4⟩ := cells5 Z.out))
        | fail)
      go_ret
      exact ⟨⟨M, mc, by rw [HML.out]; rfl, HMM.out _ H1.out⟩, H1.out⟩
    · have hi2 : i ≥ (q : Int) := by omega
      have hi3 : (q : Int) ≤ i := hi2
      go_enter Try.func15, Try.ntmps15
      go_wp2_with (first
        | (go_at_call 39; ((with_reducible refine (AL.out _ H0.out).mono ?_); rintro e w1 ⟨A1, a1, rfl, r1, b⟩; have H1 := Lib.hid (bel_trans H0.out b); replace Z := Lib.hid (keep_bel b Z.out); clear b r1 c0 c1 c2 c3 c4; obtain ⟨c0, c1, c2, c3, c4⟩ := cells5 Z.out))
        | fail)
      go_ret
      exact ⟨⟨M, mc, by rw [HML.out]; rfl, HMM.out _ H1.out⟩, H1.out⟩
  · obtain ⟨j, rfl, hjl, hj⟩ := parts_at hs
    have hx : restL ps f t (j : Int) ms = resL (Pv.spanF ps f t j).1 (Pv.spanF ps f t j).2 ms := by unfold restL; rw [if_pos hs]
    rw [hx]
    obtain ⟨⟨x, y⟩, hxy⟩ : ∃ z, z = Pv.spanF ps f t j := ⟨_, rfl⟩
    rw [← hxy] at hj ⊢
    have HJ := Lib.hid hj
    have hlt := hjl
    obtain ⟨q, hq⟩ : ∃ q, q = (Pv.parts ps f t).length := ⟨_, rfl⟩
    have HQ9 : q ≤ 101 := by rw [hq]; exact HLN.out
    unfold Pv.RSpansPost at AL
    rw [← hq] at AL hlt
    clear hs hx hxy hj hjl hq hr
    have hi0 : ¬ (j : Int) < 0 := by omega
    have hi1 : ¬ (j : Int) ≥ (q : Int) := by omega
    have hi2 : ¬ (q : Int) ≤ (j : Int) := by omega
    have hi3 : (j : Int) < (q : Int) := by omega
    have hi4 : (0 : Int) ≤ (j : Int) := by omega
    go_enter Try.func15, Try.ntmps15
    go_wp2_with (first
      | (go_at_call 39; ((with_reducible refine (AL.out _ H0.out).mono ?_); rintro e w1 ⟨A1, a1, rfl, r1, b⟩; obtain ⟨b0, off, rfl, k1, k2⟩ := rdp_get r1 HJ.out; have K1 := Lib.hid k1; have K2 := Lib.hid k2; have H1 := Lib.hid (bel_dw (bel_trans H0.out b)); have Z1 := Lib.hid (keep_bel b Z.out); clear b r1 c0 c1 c2 c3 c4 d0 d1 k1 k2))
      | fail)
    replace Z1 := Lib.hid (show w1.drew.heap[w.heap.size]? = some (NO kd (.slice P n pc) (.slice J k kc) (.slice M m mc) (.slice B b bc)) from Z1.out)
    replace K1 := Lib.hid (show w1.drew.cell? ⟨b0, off + j * 2, none⟩ = some (.string x) from K1.out)
    replace K2 := Lib.hid (show w1.drew.cell? ⟨b0, off + j * 2 + 1, none⟩ = some (.string y) from K2.out)
    refine wp_region_held_drew (S := (fun V : World => V.heap[w.heap.size]? = some (NO kd (.slice P n pc) (.slice J k kc) (.slice M m mc) (.slice B b bc)) ∧ V.cell? ⟨b0, off + j * 2, none⟩ = some (.string x) ∧ V.cell? ⟨b0, off + j * 2 + 1, none⟩ = some (.string y))) (by kernel_rfl) ?_ (fun hHeld => ?_)
    · exact ⟨Z1.out, K1.out, K2.out⟩
    have HHeld := Lib.hid hHeld; clear hHeld
    refine wpAnyH_take (i := 0) (oi := { dst := some 22, op := Op.fieldAddr 28 (Operand.tmp 3) 3, type := 0, pos := "ref.go:55", after := #[], guard := none }) (v := ?_) rfl (by kernel_rfl) (by kernel_rfl) (by kernel_rfl) (fun _ _ _ h => h) (Or.inl ⟨by rfl, ?_⟩) HHeld.out ?_
    rotate_left
    · intro w hSw; clear hSw; go_simp; try with_reducible rfl
    try simp only [Act.put, List.setIfInBounds_toArray, List.set_cons_zero, List.set_cons_succ]
    refine wpAnyH_take (i := 1) (oi := { dst := some 23, op := Op.load 25 (Operand.tmp 22), type := 25, pos := "ref.go:55", after := #[{ on := 0, ground := Ground.data }], guard := none }) (v := (.slice M m mc : Value)) rfl (by kernel_rfl) (by kernel_rfl) (by kernel_rfl) (fun _ _ _ h => h) (Or.inl ⟨by rfl, ?_⟩) HHeld.out ?_
    · intro V hV; have hc0 := (cells5 hV.1).2.2.2.1; clear hV; go_simp
    try simp only [Act.put, List.setIfInBounds_toArray, List.set_cons_zero, List.set_cons_succ]
    refine wpAnyH_take (i := 2) (oi := { dst := some 24, op := Op.move (Operand.tmp 7), type := 73, pos := "ref.go:55", after := #[], guard := none }) (v := ?_) rfl (by kernel_rfl) (by kernel_rfl) (by kernel_rfl) (fun _ _ _ h => h) (Or.inl ⟨by rfl, ?_⟩) HHeld.out ?_
    rotate_left
    · intro w hSw; clear hSw; go_simp; try with_reducible rfl
    try simp only [Act.put, List.setIfInBounds_toArray, List.set_cons_zero, List.set_cons_succ]
    refine wpAnyH_take (i := 3) (oi := { dst := some 25, op := Op.move (Operand.tmp 2), type := 3, pos := "ref.go:55", after := #[], guard := none }) (v := ?_) rfl (by kernel_rfl) (by kernel_rfl) (by kernel_rfl) (fun _ _ _ h => h) (Or.inl ⟨by rfl, ?_⟩) HHeld.out ?_
    rotate_left
    · intro w hSw; clear hSw; go_simp; try with_reducible rfl
    try simp only [Act.put, List.setIfInBounds_toArray, List.set_cons_zero, List.set_cons_succ]
    refine wpAnyH_take (i := 4) (oi := { dst := some 26, op := Op.indexAddr 73 (Operand.tmp 24) (Operand.tmp 25), type := 0, pos := "ref.go:55", after := #[{ on := 2, ground := Ground.data }, { on := 3, ground := Ground.data }], guard := none }) (v := ?_) rfl (by kernel_rfl) (by kernel_rfl) (by kernel_rfl) (fun _ _ _ h => h) (Or.inl ⟨by rfl, ?_⟩) HHeld.out ?_
    rotate_left
    · intro w hSw; clear hSw; go_simp; try with_reducible rfl
    try simp only [Act.put, List.setIfInBounds_toArray, List.set_cons_zero, List.set_cons_succ]
    refine wpAnyH_take (i := 5) (oi := { dst := some 27, op := Op.load 30 (Operand.tmp 26), type := 30, pos := "ref.go:55", after := #[{ on := 4, ground := Ground.data }], guard := none }) (v := (.agg #[.string x, .string y] : Value)) rfl (by kernel_rfl) (by kernel_rfl) (by kernel_rfl) (fun _ _ _ h => h) (Or.inl ⟨by rfl, ?_⟩) HHeld.out ?_
    · intro V hV; have hc0 := hV.2.1; have hc1 := hV.2.2; clear hV; go_simp
    try simp only [Act.put, List.setIfInBounds_toArray, List.set_cons_zero, List.set_cons_succ]
    refine wpAnyH_ready (rs := [6]) (by kernel_rfl) (by simp) ?_
    refine AllReadyH.cons (o := { dst := some 28, op := Op.call { callee := Callee.value (Operand.func 42), args := #[Operand.tmp 23, Operand.tmp 27], argTypes := #[25, 30] }, type := 25, pos := "ref.go:55", after := #[{ on := 1, ground := Ground.data }, { on := 5, ground := Ground.data }], guard := none }) rfl (fun K hK => ?_) AllReadyH.nil
    go_simp
    go_at_call 42
    with_reducible refine (FA.out x y _ H1.out).mono ?_
    rintro e w2 ⟨⟨A2, c2, rfl, r2⟩, b⟩
    have R2 := Lib.hid r2; have B2 := Lib.hid (bel_trans H1.out b); have K0 := Lib.hid (keep_bel b Z1.out); have K1 := Lib.hid (bel_later b K1.out); have K2 := Lib.hid (bel_later b K2.out); clear b r2
    refine hK.out _ _ ?_ (fun hHeld => ?_)
    · exact ⟨K0.out, K1.out, K2.out⟩
    clear HHeld; have HHeld := Lib.hid hHeld; clear hHeld
    clear hK K
    try simp only [Act.put, List.setIfInBounds_toArray, List.set_cons_zero, List.set_cons_succ]
    refine wpAnyH_take (i := 7) (oi := { dst := some 6, op := Op.assign (Operand.tmp 28), type := 25, pos := "ref.go:55", after := #[{ on := 6, ground := Ground.data }, { on := 6, ground := Ground.chain }, { on := 0, ground := Ground.phase }, { on := 1, ground := Ground.phase }, { on := 2, ground := Ground.phase }, { on := 3, ground := Ground.phase }, { on := 4, ground := Ground.phase }, { on := 5, ground := Ground.phase }, { on := 6, ground := Ground.phase }], guard := none }) (v := ?_) rfl (by kernel_rfl) (by kernel_rfl) (by kernel_rfl) (fun _ _ _ h => h) (Or.inl ⟨by rfl, ?_⟩) HHeld.out ?_
    rotate_left
    · intro w hSw; clear hSw; go_simp; try with_reducible rfl
    try simp only [Act.put, List.setIfInBounds_toArray, List.set_cons_zero, List.set_cons_succ]
    refine wpAnyH_done (by kernel_rfl) ?_ _
    clear HHeld
    go_wp2
    go_ret
    exact ⟨⟨A2, c2, rfl, R2.out⟩, B2.out⟩
end Go.Proofs.Ytilnpeekajnlhaa
namespace Go.Proofs.Ytilnpeekajnlhaa
open Go.RowKit Go.Maps
set_option maxRecDepth 10000 in
set_option maxHeartbeats 4000000 in
theorem take_row (a b : ByteArray) (A : Option Addr) (n cap : Nat) (xs : List MG) (w : World) (hl : xs.length = n) (hn : n ≤ 1000) (hA : EG.Rd w A xs) (ho : OkA xs) :
    Calls Try.prog 38 #[.slice A n cap, .agg #[.string a, .string b]] w fun r w' => (∃ A' c' B' d', r = .returned (TV A' (forL a b xs).length c' B' (resL a b xs).length d') ∧ EG.Row w' w.heap.size A' (forL a b xs) c' ∧ EG.Row w' w.heap.size B' (resL a b xs) d') ∧ Below w.heap.size w w' := by
  have HL := Lib.hid hl
  have HA := Lib.hid hA
  have HO := Lib.hid ho
  have H0 := Lib.hid (alb w (rgc a b))
  have z0 := Lib.hid (heap_alloc_new w (rgc a b))
  clear hl hA ho
  go_enter Try.func38, Try.ntmps38
  go_wp2
  go_loopw [6, 11] (fun sv iv wr => ∃ (k : Nat) (A' : Option Addr) (c' m : Nat), k ≤ n ∧ iv = .int .i64 k ∧ sv = .slice A' m c' ∧ (resL a b (xs.take k)).length = m ∧ EG.Row wr (w.alloc (rgc a b)).heap.size A' (resL a b (xs.take k)) c' ∧ Below (w.alloc (rgc a b)).heap.size (w.alloc (rgc a b)) wr) (fun _ i _ => n - (intOf i).toNat)
  case atStart => exact ⟨0, none, 0, 0, by omega, rfl, rfl, rfl, .inl ⟨rfl, rfl⟩, Below.refl _ _⟩
  case round =>
    obtain ⟨k, A', c', m, hk, rfl, rfl, hm, hr, hb⟩ := hrel
    have HM := Lib.hid hm
    have HR := Lib.hid hr
    have HB := Lib.hid (bel_trans H0.out hb)
    have HP := Lib.hid hb
    have ZR := Lib.hid (keep_bel hb z0.out)
    clear hm hr hb
    by_cases h8 : k < n
    · have hk1 : (k : Int) < (n : Int) := by omega
      have hk0 : (0 : Int) ≤ (k : Int) := by omega
      obtain ⟨x, hx⟩ : ∃ x, xs[k]? = some x := ⟨_, List.getElem?_eq_getElem (by rw [HL.out]; omega)⟩
      obtain ⟨b', off, rfl, hlt, g0, g1, g2, g3, g4, g5⟩ := eg_at (HA.out.later HB.out) hx
      have HNX := Lib.hid (resL_next (a := a) (b := b) hx)
      have AR := Lib.hid (rest_any x (HO.out.get hx) a b)
      have HMM : Hid (m ≤ 2000) := Lib.hid (by have := resL_len a b (xs.take k); have := take_le xs k; rw [HM.out] at *; omega)
      have HLL := Lib.hid (rest_len x a b)
      obtain ⟨d0, d1, -, -⟩ := has_two (keep_bel (alb wr (MO x)) ZR.out)
      clear hx hlt
      obtain ⟨L, hL⟩ : ∃ L, L = restM x a b := ⟨_, rfl⟩
      rw [← hL] at HNX AR HLL
      clear hL
      obtain ⟨q, hq⟩ : ∃ q, L.length = q := ⟨_, rfl⟩
      have HQ := Lib.hid hq
      rw [hq] at HLL AR
      clear hq
      go_wp2_with (first
        | (go_at_call 73; ((with_reducible refine (AR.out _).mono ?_); rintro e w1 ⟨⟨AL, cL, rfl, rl⟩, b1⟩; have RL := Lib.hid rl; have B1 := Lib.hid (bel_a b1); have RW := Lib.hid (HR.out.later B1.out); have BQ := Lib.hid (bel_trans HP.out B1.out); clear b1 rl))
        | (at_builtin; refine RE.wpList_put EG _ rfl (.tmp 15) (.tmp 18) rfl (base := (w.alloc (rgc a b)).heap.size) A' m c' _ AL q cL L rfl rfl RW.out HM.out (by have := HMM.out; omega) BQ.out.size HQ.out (by have := HLL.out; omega) RL.out ?_; intro A2 c2 w2 r1 r2 r3; have R1 := Lib.hid r1; have R2 := Lib.hid r2; clear r1 r2 r3)
        | fail)
      exact ⟨⟨k + 1, A2, c2, m + q, by omega, by simp, by simp, by rw [HNX.out, List.length_append, HM.out, HQ.out], by rw [HNX.out]; exact R1.out, BQ.out.trans (RE.Row.below R2.out RW.out (Nat.le_refl _) BQ.out.size)⟩, by simp [intOf]; omega⟩
    · have hk1 : ¬ (k : Int) < (n : Int) := by omega
      have e : xs.take k = xs := List.take_of_length_le (by rw [HL.out]; omega)
      rw [e] at HM HR
      have hm := HM.out
      subst hm
      have AF := Lib.hid (for_any a b A n cap xs wr HL.out hn (HA.out.later HB.out) HO.out)
      obtain ⟨d0, d1, -, -⟩ := has_two ZR.out
      go_wp2_with (first
        | (go_at_call 48; ((with_reducible refine AF.out.mono ?_); rintro e w1 ⟨⟨AL, cL, rfl, rl⟩, b1⟩; have RL := Lib.hid (rl.base HB.out.size); have RR := Lib.hid ((HR.out.later b1).base (show w.heap.size ≤ (w.alloc (rgc a b)).heap.size by simp)); have B1 := Lib.hid (bel_trans HB.out b1); clear b1 rl))
        | fail)
      refine bodyPost_ret (v := TV AL (forL a b xs).length cL A' (resL a b xs).length c') (by simp [results, Try.results38, go_sem]) rfl ⟨⟨_, _, _, _, rfl, RL.out, RR.out⟩, B1.out⟩
end Go.Proofs.Ytilnpeekajnlhaa
namespace Go.Proofs.Ytilnpeekajnlhaa
open Go.RowKit Go.Maps
/-- What is taken, and the node without it. -/
def TakeP (w : World) (kd : Int) (n k : Nat) (ps : List ByteArray) (ks : List Int) (L R : List MG) (e : Ending) (w' : World) : Prop :=
  ∃ T tc P pc J kc M mc B bc, e = .returned (.tuple #[.slice T L.length tc, NV kd (.slice P n pc) (.slice J k kc) (.slice M R.length mc) (.slice B 0 bc)]) ∧ EG.Row w' w.heap.size T L tc ∧ R3 w' w.heap.size P J M pc kc mc ps ks R ∧ Below w.heap.size w w'
set_option maxRecDepth 100000 in
set_option maxHeartbeats 2000000 in
theorem itake_any (kd : Int) (P J M B : Option Addr) (n pc k kc m mc bc : Nat) (ps : List ByteArray) (ks : List Int) (ms : List MG) (f t : ByteArray) (i : Int) (w : World) (hl : ps.length = n) (hn : n ≤ 100) (hP : Pv.RdS w P ps) (hkl : ks.length = k) (hk : k = n + 1) (hJ : EI.Rd w J ks) (hm : ms.length = m) (hm1 : m ≤ 1000) (hM : EG.Rd w M ms) (ho : OkA ms) :
    Calls Try.prog 10 #[NV kd (.slice P n pc) (.slice J k kc) (.slice M m mc) (.slice B 0 bc), .agg #[.string f, .string t], .int .i64 i] w (TakeP w kd n k ps ks (kidL ps f t i ms) (restL ps f t i ms)) := by
  have PA := Lib.hid (fun W (h : Below w.heap.size w W) => part_all kd P J M B n pc k kc m mc 0 bc ps f t i W hl hn (Rd.later hP h) hk)
  have OA := Lib.hid (fun W (h : Below w.heap.size w W) => own_any kd P J M B n pc k kc m mc bc ps ks ms W hl hkl hm (by omega) (by omega) hm1 (es_rd.2 (Rd.later hP h)) (hJ.later h) (hM.later h))
  have TA := Lib.hid (fun x y A c W (h : EG.Rd W A ms) => take_row x y A m c ms W hm hm1 h ho)
  have HM := Lib.hid hm
  clear hl hP hkl hJ hm hM ho hk
  have y1 := two_new w (NO kd (.slice P n pc) (.slice J k kc) (.slice M m mc) (.slice B 0 bc)) (rgc f t)
  have b1 := bel_alloc (alb w (NO kd (.slice P n pc) (.slice J k kc) (.slice M m mc) (.slice B 0 bc))) (rgc f t)
  have b2 := alb ((w.alloc (NO kd (.slice P n pc) (.slice J k kc) (.slice M m mc) (.slice B 0 bc))).alloc (rgc f t)) ZN
  have y0 := heap_alloc_new ((w.alloc (NO kd (.slice P n pc) (.slice J k kc) (.slice M m mc) (.slice B 0 bc))).alloc (rgc f t)) ZN
  simp only [World.size_alloc] at y0
  have H0 := Lib.hid (bel_trans b1 b2)
  have Z := Lib.hid (keep_bel b2 y1.1)
  have Y := Lib.hid (keep_bel b2 y1.2)
  have X := Lib.hid y0
  clear y1 b1 b2 y0
  obtain ⟨c0, c1, c2, c3, c4⟩ := cells5 Z.out
  obtain ⟨d0, d1, -, -⟩ := has_two Y.out
  unfold kidL restL
  unfold Pv.SpanPost Pv.spv at PA
  obtain ⟨x, hx⟩ : ∃ x, x = (Pv.spanF ps f t i).1 := ⟨_, rfl⟩
  obtain ⟨y, hy⟩ : ∃ y, y = (Pv.spanF ps f t i).2 := ⟨_, rfl⟩
  rw [← hx, ← hy] at PA ⊢
  cases hok : Pv.spanB ps f t i
  · rw [hok] at PA
    clear hx hy hok
    go_enter Try.func10, Try.ntmps10
    go_upto_region 3 with (first
      | (go_at_call 37; ((with_reducible refine (PA.out _ H0.out).mono ?_); rintro e w1 ⟨rfl, b⟩; have b' := bel_trans b (alb w1 (rgc x y)); have HS1 := Lib.hid b'.size; have HN1 := Lib.hid (show w.heap.size + 3 ≤ w1.heap.size by have := b.size; simp only [World.size_alloc] at this; omega); replace H0 := Lib.hid (bel_trans H0.out b'); replace Z := Lib.hid (keep_bel b' Z.out); replace X := Lib.hid (keep_bel b' X.out); replace Y := Lib.hid (heap_alloc_new w1 (rgc x y)); clear b b' c0 c1 c2 c3 c4 d0 d1; obtain ⟨c0, c1, c2, c3, c4⟩ := cells5 Z.out))
      | (go_at_call 30; ((with_reducible refine (OA.out _ H0.out).mono ?_); rintro e w2 ⟨P2, p2, J2, j2, M2, m2, B2, b2, rfl, rr, b⟩; have RR := Lib.hid (rr.base (b2 := w.heap.size + 3) (by have h1 := HN1.out; simp only [World.size_alloc]; omega)); replace H0 := Lib.hid (bel_trans H0.out b); replace Z := Lib.hid (keep_bel b Z.out); replace X := Lib.hid (keep_bel b X.out); replace Y := Lib.hid (keep_bel b Y.out); clear b rr c0 c1 c2 c3 c4; obtain ⟨c0, c1, c2, c3, c4⟩ := cells5 Z.out; obtain ⟨f0, f1, f2, f3, f4⟩ := froz5 Z.out))
      | fail)
    generalize hW4 : World.setCell _ _ _ = W4
    have HC4 := Lib.hid (show Chg (fun g => g = w.heap.size) w2 W4 by rw [← hW4]; exact chg5 _ _ _ _ _ _ _)
    have Z4 := Lib.hid (show W4.heap[w.heap.size]? = some (NO kd (.slice P2 n p2) (.slice J2 k j2) (.slice M2 m m2) (.slice B2 0 b2)) from (by rw [← hW4]; exact set5w Z.out _ _ _ _ _))
    have X4 := Lib.hid (show W4.heap[w.heap.size + 1 + 1]? = some ZN from keep_chg HC4.out X.out (fun e => by omega))
    have Y4 := Lib.hid (keep_chg HC4.out Y.out (fun e => by have := HN1.out; omega))
    have RR4 := Lib.hid (RR.out.chgB HC4.out (by omega))
    have H4 := Lib.hid (bel_chg H0.out HC4.out (Nat.le_refl _))
    have HS4 := Lib.hid (show w.heap.size + 3 ≤ W4.heap.size by have := (Array.getElem?_eq_some_iff.1 Y4.out).1; have := HN1.out; omega)
    clear hW4 c0 c1 c2 c3 c4 f0 f1 f2 f3 f4 Z X Y RR
    obtain ⟨c0, c1, c2, c3, c4⟩ := cells5 Z4.out
    obtain ⟨d0, d1, -, -⟩ := has_two Y4.out
    go_wp2_with fail
    have Z5 := Z4
    have X5 := X4
    have RR5 := RR4
    have H5 := H4
    clear c0 c1 c2 c3 c4 d0 d1
    obtain ⟨k0, k1, k2, k3, k4⟩ := cells5 X5.out
    obtain ⟨f0, f1, f2, f3, f4⟩ := froz5 X5.out
    refine wp_region_held_drew (S := (fun V : World => V.heap[w.heap.size]? = some (NO kd (.slice P2 n p2) (.slice J2 k j2) (.slice M2 m m2) (.slice B2 0 b2)))) (by kernel_rfl) ?_ (fun hHeld => ?_)
    · exact Z5.out
    have HHeld := Lib.hid hHeld; clear hHeld
    refine wpAnyH_take (i := 0) (oi := { dst := some 22, op := Op.load 28 (Operand.tmp 3), type := 28, pos := "inner.go:106", after := #[{ on := 1, ground := Ground.gcOnly Departure.lateStores }], guard := none }) (v := (NV kd (.slice P2 n p2) (.slice J2 k j2) (.slice M2 m m2) (.slice B2 0 b2) : Value)) rfl (by kernel_rfl) (by kernel_rfl) (by kernel_rfl) (fun _ _ _ h => h) (Or.inl ⟨by rfl, ?_⟩) HHeld.out ?_
    · intro V hV; have hc0 := (cells5 hV).1; have hc1 := (cells5 hV).2.1; have hc2 := (cells5 hV).2.2.1; have hc3 := (cells5 hV).2.2.2.1; have hc4 := (cells5 hV).2.2.2.2; clear hV; go_simp
    try simp only [Act.put, List.setIfInBounds_toArray, List.set_cons_zero, List.set_cons_succ]
    refine wpAnyH_take (i := 1) (oi := { dst := some 6, op := Op.assign (Operand.const (Value.slice none 0 0)), type := 25, pos := "inner.go:106", after := #[{ on := 0, ground := Ground.textOnly Departure.lateStores }], guard := none }) (v := ?_) rfl (by kernel_rfl) (by kernel_rfl) (by kernel_rfl) (fun _ _ _ h => h) (Or.inl ⟨by rfl, ?_⟩) HHeld.out ?_
    rotate_left
    · intro w hSw; clear hSw; go_simp; try with_reducible rfl
    try simp only [Act.put, List.setIfInBounds_toArray, List.set_cons_zero, List.set_cons_succ]
    refine wpAnyH_ready (rs := [2]) (by kernel_rfl) (by simp) ?_
    refine AllReadyH.cons (o := { dst := none, op := Op.store 28 (Operand.tmp 7) (Operand.tmp 22), type := 0, pos := "inner.go:106", after := #[{ on := 0, ground := Ground.data }, { on := 1, ground := Ground.chain }, { on := 0, ground := Ground.phase }, { on := 1, ground := Ground.phase }], guard := none }) rfl (fun K hK => ?_) AllReadyH.nil
    go_simp
    generalize hW : World.setCell _ _ _ = W6
    have HC6 := Lib.hid (show Chg (fun g => g = w.heap.size + 1 + 1) W4 W6 by rw [← hW]; exact chg5 _ _ _ _ _ _ _)
    have Y6 := Lib.hid (show W6.heap[w.heap.size + 1 + 1]? = some (NO kd (.slice P2 n p2) (.slice J2 k j2) (.slice M2 m m2) (.slice B2 0 b2)) from (by rw [← hW]; exact set5w X5.out _ _ _ _ _))
    clear hW
    refine hK.out _ _ ?_ (fun hHeld => ?_)
    · exact (show W6.heap[w.heap.size]? = some (NO kd (.slice P2 n p2) (.slice J2 k j2) (.slice M2 m m2) (.slice B2 0 b2)) from keep_chg HC6.out Z5.out (fun e => by omega))
    clear HHeld; have HHeld := Lib.hid hHeld; clear hHeld
    clear hK K
    try simp only [Act.put, List.setIfInBounds_toArray, List.set_cons_zero, List.set_cons_succ]
    refine wpAnyH_done (by kernel_rfl) ?_ _
    clear HHeld
    go_wp2
    obtain ⟨k0, k1, k2, k3, k4⟩ := cells5 Y6.out
    refine bodyPost_ret (v := .tuple #[.slice none 0 0, NV kd (.slice P2 n p2) (.slice J2 k j2) (.slice M2 m m2) (.slice B2 0 b2)]) (by simp [results, Try.results10, go_sem, k0, k1, k2, k3, k4]) rfl ⟨none, 0, P2, p2, J2, j2, M2, m2, B2, b2, by rw [← HM.out]; rfl, RE.Row.nil, ((RR5.out.chgB HC6.out (by omega)).base (by omega)).later (drew_bel W6), (bel_chg H5.out HC6.out (by omega)).drew⟩

  · rw [hok] at PA
    clear hx hy hok
    go_enter Try.func10, Try.ntmps10
    go_upto_region 3 with (first
      | (go_at_call 37; ((with_reducible refine (PA.out _ H0.out).mono ?_); rintro e w1 ⟨rfl, b⟩; have b' := bel_trans b (alb w1 (rgc x y)); have HS1 := Lib.hid b'.size; have HN1 := Lib.hid (show w.heap.size + 3 ≤ w1.heap.size by have := b.size; simp only [World.size_alloc] at this; omega); replace H0 := Lib.hid (bel_trans H0.out b'); replace Z := Lib.hid (keep_bel b' Z.out); replace X := Lib.hid (keep_bel b' X.out); replace Y := Lib.hid (heap_alloc_new w1 (rgc x y)); clear b b' c0 c1 c2 c3 c4 d0 d1; obtain ⟨c0, c1, c2, c3, c4⟩ := cells5 Z.out))
      | (go_at_call 30; ((with_reducible refine (OA.out _ H0.out).mono ?_); rintro e w2 ⟨P2, p2, J2, j2, M2, m2, B2, b2, rfl, rr, b⟩; have RR := Lib.hid (rr.base (b2 := w.heap.size + 3) (by have h1 := HN1.out; simp only [World.size_alloc]; omega)); replace H0 := Lib.hid (bel_trans H0.out b); replace Z := Lib.hid (keep_bel b Z.out); replace X := Lib.hid (keep_bel b X.out); replace Y := Lib.hid (keep_bel b Y.out); clear b rr c0 c1 c2 c3 c4; obtain ⟨c0, c1, c2, c3, c4⟩ := cells5 Z.out; obtain ⟨f0, f1, f2, f3, f4⟩ := froz5 Z.out))
      | fail)
    generalize hW4 : World.setCell _ _ _ = W4
    have HC4 := Lib.hid (show Chg (fun g => g = w.heap.size) w2 W4 by rw [← hW4]; exact chg5 _ _ _ _ _ _ _)
    have Z4 := Lib.hid (show W4.heap[w.heap.size]? = some (NO kd (.slice P2 n p2) (.slice J2 k j2) (.slice M2 m m2) (.slice B2 0 b2)) from (by rw [← hW4]; exact set5w Z.out _ _ _ _ _))
    have X4 := Lib.hid (show W4.heap[w.heap.size + 1 + 1]? = some ZN from keep_chg HC4.out X.out (fun e => by omega))
    have Y4 := Lib.hid (keep_chg HC4.out Y.out (fun e => by have := HN1.out; omega))
    have RR4 := Lib.hid (RR.out.chgB HC4.out (by omega))
    have H4 := Lib.hid (bel_chg H0.out HC4.out (Nat.le_refl _))
    have HS4 := Lib.hid (show w.heap.size + 3 ≤ W4.heap.size by have := (Array.getElem?_eq_some_iff.1 Y4.out).1; have := HN1.out; omega)
    clear hW4 c0 c1 c2 c3 c4 f0 f1 f2 f3 f4 Z X Y RR
    obtain ⟨c0, c1, c2, c3, c4⟩ := cells5 Z4.out
    obtain ⟨d0, d1, -, -⟩ := has_two Y4.out
    go_upto_region 7 with (first
      | (go_at_call 38; ((with_reducible refine (TA.out x y M2 m2 _ RR4.out.r3.rd).mono ?_); rintro e w3 ⟨⟨T3, t3, M3, m3, rfl, rt, rm⟩, b⟩; have RT := Lib.hid (rt.base HS4.out); have RM := Lib.hid (rm.base HS4.out); have RR5 := Lib.hid (R3.mk (RR4.out.r1.later b) (RR4.out.r2.later b) RM.out); replace H4 := Lib.hid (bel_trans H4.out b); replace Z4 := Lib.hid (keep_bel b Z4.out); replace X4 := Lib.hid (keep_bel b X4.out); clear b rt rm c0 c1 c2 c3 c4 d0 d1; obtain ⟨c0, c1, c2, c3, c4⟩ := cells5 Z4.out; obtain ⟨f0, f1, f2, f3, f4⟩ := froz5 Z4.out))
      | fail)
    generalize hW5 : World.setCell _ _ _ = W5
    have HC5 := Lib.hid (show Chg (fun g => g = w.heap.size) w3 W5 by rw [← hW5]; exact Chg.set _ _ rfl)
    have Z5 := Lib.hid (show W5.heap[w.heap.size]? = some (NO kd (.slice P2 n p2) (.slice J2 k j2) (.slice M3 (resL x y ms).length m3) (.slice B2 0 b2)) from (by rw [← hW5]; exact set5_3 Z4.out _))
    have X5 := Lib.hid (show W5.heap[w.heap.size + 1 + 1]? = some ZN from keep_chg HC5.out X4.out (fun e => by omega))
    have RR6 := Lib.hid (RR5.out.chgB HC5.out (by omega))
    have RT5 := Lib.hid (RT.out.chgB HC5.out (by omega))
    have H5 := Lib.hid (bel_chg H4.out HC5.out (Nat.le_refl _))
    clear hW5 c0 c1 c2 c3 c4 f0 f1 f2 f3 f4 Z4 X4 RR5 RT
    have RR5 := RR6
    obtain ⟨k0, k1, k2, k3, k4⟩ := cells5 X5.out
    obtain ⟨f0, f1, f2, f3, f4⟩ := froz5 X5.out
    refine wp_region_held_drew (S := (fun V : World => V.heap[w.heap.size]? = some (NO kd (.slice P2 n p2) (.slice J2 k j2) (.slice M3 (resL x y ms).length m3) (.slice B2 0 b2)))) (by kernel_rfl) ?_ (fun hHeld => ?_)
    · exact Z5.out
    have HHeld := Lib.hid hHeld; clear hHeld
    refine wpAnyH_take (i := 0) (oi := { dst := some 31, op := Op.move (Operand.tmp 10), type := 25, pos := "inner.go:110", after := #[], guard := none }) (v := ?_) rfl (by kernel_rfl) (by kernel_rfl) (by kernel_rfl) (fun _ _ _ h => h) (Or.inl ⟨by rfl, ?_⟩) HHeld.out ?_
    rotate_left
    · intro w hSw; clear hSw; go_simp; try with_reducible rfl
    try simp only [Act.put, List.setIfInBounds_toArray, List.set_cons_zero, List.set_cons_succ]
    refine wpAnyH_take (i := 1) (oi := { dst := some 32, op := Op.load 28 (Operand.tmp 3), type := 28, pos := "inner.go:110", after := #[{ on := 2, ground := Ground.gcOnly Departure.lateStores }], guard := none }) (v := (NV kd (.slice P2 n p2) (.slice J2 k j2) (.slice M3 (resL x y ms).length m3) (.slice B2 0 b2) : Value)) rfl (by kernel_rfl) (by kernel_rfl) (by kernel_rfl) (fun _ _ _ h => h) (Or.inl ⟨by rfl, ?_⟩) HHeld.out ?_
    · intro V hV; have hc0 := (cells5 hV).1; have hc1 := (cells5 hV).2.1; have hc2 := (cells5 hV).2.2.1; have hc3 := (cells5 hV).2.2.2.1; have hc4 := (cells5 hV).2.2.2.2; clear hV; go_simp
    try simp only [Act.put, List.setIfInBounds_toArray, List.set_cons_zero, List.set_cons_succ]
    refine wpAnyH_take (i := 2) (oi := { dst := some 6, op := Op.assign (Operand.tmp 31), type := 25, pos := "inner.go:110", after := #[{ on := 0, ground := Ground.data }, { on := 0, ground := Ground.phase }, { on := 1, ground := Ground.textOnly Departure.lateStores }], guard := none }) (v := ?_) rfl (by kernel_rfl) (by kernel_rfl) (by kernel_rfl) (fun _ _ _ h => h) (Or.inl ⟨by rfl, ?_⟩) HHeld.out ?_
    rotate_left
    · intro w hSw; clear hSw; go_simp; try with_reducible rfl
    try simp only [Act.put, List.setIfInBounds_toArray, List.set_cons_zero, List.set_cons_succ]
    refine wpAnyH_ready (rs := [3]) (by kernel_rfl) (by simp) ?_
    refine AllReadyH.cons (o := { dst := none, op := Op.store 28 (Operand.tmp 7) (Operand.tmp 32), type := 0, pos := "inner.go:110", after := #[{ on := 1, ground := Ground.data }, { on := 2, ground := Ground.chain }, { on := 0, ground := Ground.phase }, { on := 1, ground := Ground.phase }, { on := 2, ground := Ground.phase }], guard := none }) rfl (fun K hK => ?_) AllReadyH.nil
    go_simp
    generalize hW : World.setCell _ _ _ = W6
    have HC6 := Lib.hid (show Chg (fun g => g = w.heap.size + 1 + 1) W5 W6 by rw [← hW]; exact chg5 _ _ _ _ _ _ _)
    have Y6 := Lib.hid (show W6.heap[w.heap.size + 1 + 1]? = some (NO kd (.slice P2 n p2) (.slice J2 k j2) (.slice M3 (resL x y ms).length m3) (.slice B2 0 b2)) from (by rw [← hW]; exact set5w X5.out _ _ _ _ _))
    clear hW
    refine hK.out _ _ ?_ (fun hHeld => ?_)
    · exact (show W6.heap[w.heap.size]? = some (NO kd (.slice P2 n p2) (.slice J2 k j2) (.slice M3 (resL x y ms).length m3) (.slice B2 0 b2)) from keep_chg HC6.out Z5.out (fun e => by omega))
    clear HHeld; have HHeld := Lib.hid hHeld; clear hHeld
    clear hK K
    try simp only [Act.put, List.setIfInBounds_toArray, List.set_cons_zero, List.set_cons_succ]
    refine wpAnyH_done (by kernel_rfl) ?_ _
    clear HHeld
    go_wp2
    obtain ⟨k0, k1, k2, k3, k4⟩ := cells5 Y6.out
    refine bodyPost_ret (v := .tuple #[.slice T3 (forL x y ms).length t3, NV kd (.slice P2 n p2) (.slice J2 k j2) (.slice M3 (resL x y ms).length m3) (.slice B2 0 b2)]) (by simp [results, Try.results10, go_sem, k0, k1, k2, k3, k4]) rfl ⟨T3, t3, P2, p2, J2, j2, M3, m3, B2, b2, rfl, ((RT5.out.chgB HC6.out (by omega)).base (by omega)).later (drew_bel W6), ((RR5.out.chgB HC6.out (by omega)).base (by omega)).later (drew_bel W6), (bel_chg H5.out HC6.out (by omega)).drew⟩

end Go.Proofs.Ytilnpeekajnlhaa
namespace Go.Proofs.Ytilnpeekajnlhaa.Pv
open Go.RowKit

set_option maxHeartbeats 1000000 in
theorem sameS_eq (A B : Option Addr) (p : List ByteArray) (n c c' : Nat) (w : World) (hl : p.length = n) (hn : n ≤ 100000) (hA : RdS w A p) (hB : RdS w B p) :
    Calls Try.prog 41 #[.slice A n c, .slice B n c'] w fun e w' => e = .returned (.bool true) ∧ Below w.heap.size w w' := by
  have HA := Lib.hid hA
  have HB := Lib.hid hB
  have HL := Lib.hid hl
  clear hA hB hl
  go_enter Try.func41, Try.ntmps41
  go_wp2
  go_loopw [5] (fun iv wr => ∃ k d : Nat, k ≤ n ∧ iv = .int .i64 k ∧ wr = w.drewN d) (fun i _ => n - (intOf i).toNat)
  case atStart => exact ⟨0, 0, by omega, rfl, rfl⟩
  case round =>
    obtain ⟨k, d, hk, rfl, hwr⟩ := hrel
    have HW := Lib.hid hwr
    clear hwr
    by_cases h8 : k < n
    · have i1 : (k : Int) < (n : Int) := by omega
      have i0 : (0 : Int) ≤ (k : Int) := by omega
      obtain ⟨b, off, rfl, hlt, f0⟩ := rds_get HA.out (k := k) (by have := HL.out; omega)
      obtain ⟨b2, off2, rfl, hlt2, f2⟩ := rds_get HB.out (k := k) (by have := HL.out; omega)
      have g0 : wr.cell? ⟨b, off + k, none⟩ = some (.string (at_ p k)) := by rw [HW.out]; exact f0
      have g2 : wr.cell? ⟨b2, off2 + k, none⟩ = some (.string (at_ p k)) := by rw [HW.out]; exact f2
      generalize at_ p k = x at g0 g2
      clear f0 f2
      go_wp2_with fail
      go_quiet (fail)
      go_wp2
      exact ⟨⟨k + 1, d + nq, by omega, by simp, by rw [HW.out, World.drewN_drewN]⟩, by simp [intOf]; omega⟩
    · have i1 : ¬ (k : Int) < (n : Int) := by omega
      go_wp2
      go_ret
      exact ⟨rfl, by rw [HW.out]; exact bel_drewN (Below.refl _ _) d⟩

end Go.Proofs.Ytilnpeekajnlhaa.Pv
