/- Texts of the proof, one behind the other. -/
import Derived.Test.YtilnpeekajnlhaaOk15
import Derived.Test.YtilnpeekajnlhaaOk11
import Derived.Test.YtilnpeekajnlhaaOk18
import Derived.Deep.RegionHeld3
set_option linter.unusedVariables false
set_option linter.unusedSimpArgs false
namespace Go.Proofs.Ytilnpeekajnlhaa
open Go.RowKit Go.Maps
set_option maxRecDepth 100000 in
set_option maxHeartbeats 8000000 in
theorem rres_any (a b : ByteArray) (A : Option Addr) (n cap : Nat) (xs : List MG) (w : World) (hl : xs.length = n) (hn : n ≤ 400) (hA : EG.Rd w A xs) (hs : ∀ k, k ≤ n → accM [] (resL a b (xs.take k)) = resL a b (xs.take k)) :
    Calls Try.prog 42 #[.slice A n cap, .agg #[.string a, .string b]] w (RowsOf (resL a b xs) w) := by
  have HL := Lib.hid hl
  have HA := Lib.hid hA
  have HS := Lib.hid hs
  have H0 := Lib.hid (bel_alloc (alb w (rgc a b)) (.cells #[] 62))
  have z0 := Lib.hid (keep_bel (alb _ (.cells #[] 62)) (heap_alloc_new w (rgc a b)))
  clear hl hA hs
  go_enter Try.func42, Try.ntmps42
  go_wp2
  go_loopw [5, 6] (fun sv iv wr => ∃ (k : Nat) (A' : Option Addr) (c' m : Nat), k ≤ n ∧ iv = .int .i64 k ∧ sv = .slice A' m c' ∧ Hid ((resL a b (xs.take k)).length = m) ∧ Hid (EG.Rd wr A' (resL a b (xs.take k))) ∧ Below w.heap.size w wr ∧ Hid (wr.heap[w.heap.size]? = some (rgc a b))) (fun _ i _ => n - (intOf i).toNat)
  case atStart => exact ⟨0, _, 0, 0, by omega, rfl, rfl, Lib.hid rfl, Lib.hid (.inl rfl), H0.out, z0⟩
  case round =>
    obtain ⟨k, A', c', m, hk, rfl, rfl, HM, HR, hb, ZR⟩ := hrel
    have HB := Lib.hid hb
    clear hb
    by_cases h8 : k < n
    · have hk1 : (k : Int) < (n : Int) := by omega
      have hk0 : (0 : Int) ≤ (k : Int) := by omega
      obtain ⟨x, hx⟩ : ∃ x, xs[k]? = some x := ⟨_, List.getElem?_eq_getElem (by rw [HL.out]; omega)⟩
      obtain ⟨b', off, rfl, hlt, g0, g1, g2, g3, g4, g5⟩ := eg_at (HA.out.later HB.out) hx
      have HNX := Lib.hid (resL_next (a := a) (b := b) hx)
      have AC := Lib.hid (rrest_any x a b)
      have HMM : Hid (m ≤ 800) := Lib.hid (by have := resL_len a b (xs.take k); have := take_le xs k; rw [HM.out] at *; omega)
      obtain ⟨d0, d1, -, -⟩ := has_two ZR.out
      have HACC := Lib.hid (HS.out (k + 1) (by omega))
      obtain ⟨L, hL⟩ : ∃ L, restM x a b = L := ⟨_, rfl⟩
      have HQL : Hid (L.length ≤ 2) := Lib.hid (by rw [← hL]; exact rest_len x a b)
      rw [HNX.out] at HACC
      rw [hL] at HNX AC HACC
      obtain ⟨q, hq⟩ : ∃ q, L.length = q := ⟨_, rfl⟩
      have HQ := Lib.hid hq
      rw [hq] at HQL
      clear hx hlt hL
      have KS := Lib.hid (show ∀ W, Below wr.heap.size wr W → SF wr w.heap.size b' (off + k * 6) a b x W from fun W h => ⟨h, bel_later h d0, bel_later h d1, bel_later h g0, bel_later h g1, bel_later h g2, bel_later h g3, bel_later h g4, bel_later h g5⟩)
      clear d0 d1 g0 g1 g2 g3 g4 g5
      unfold RowsOf at AC
      rw [hq] at AC
      clear hq
      go_wp2_with fail
      refine wp_region_held_drew (S := (fun V : World => SF wr w.heap.size b' (off + k * 6) a b x V)) (by kernel_rfl) ?_ (fun hHeld => ?_)
      · exact KS.out _ ((Below.refl _ _).drew)
      have HHeld := Lib.hid hHeld; clear hHeld
      refine wpAnyH_take (i := 0) (oi := { dst := some 14, op := Op.move (Operand.tmp 5), type := 25, pos := "ref.go:93", after := #[], guard := none }) (v := ?_) rfl (by kernel_rfl) (by kernel_rfl) (by kernel_rfl) (fun _ _ _ h => h) (Or.inl ⟨by rfl, ?_⟩) HHeld.out ?_
      rotate_left
      · intro w hSw; clear hSw; go_simp; try with_reducible rfl
      try simp only [Act.put, List.setIfInBounds_toArray, List.set_cons_zero, List.set_cons_succ]
      refine wpAnyH_take (i := 1) (oi := { dst := some 15, op := Op.move (Operand.tmp 0), type := 25, pos := "ref.go:93", after := #[], guard := none }) (v := ?_) rfl (by kernel_rfl) (by kernel_rfl) (by kernel_rfl) (fun _ _ _ h => h) (Or.inl ⟨by rfl, ?_⟩) HHeld.out ?_
      rotate_left
      · intro w hSw; clear hSw; go_simp; try with_reducible rfl
      try simp only [Act.put, List.setIfInBounds_toArray, List.set_cons_zero, List.set_cons_succ]
      refine wpAnyH_take (i := 2) (oi := { dst := some 16, op := Op.move (Operand.tmp 6), type := 3, pos := "ref.go:93", after := #[], guard := none }) (v := ?_) rfl (by kernel_rfl) (by kernel_rfl) (by kernel_rfl) (fun _ _ _ h => h) (Or.inl ⟨by rfl, ?_⟩) HHeld.out ?_
      rotate_left
      · intro w hSw; clear hSw; go_simp; try with_reducible rfl
      try simp only [Act.put, List.setIfInBounds_toArray, List.set_cons_zero, List.set_cons_succ]
      refine wpAnyH_take (i := 3) (oi := { dst := some 17, op := Op.indexAddr 25 (Operand.tmp 15) (Operand.tmp 16), type := 0, pos := "ref.go:93", after := #[{ on := 1, ground := Ground.data }, { on := 2, ground := Ground.data }], guard := none }) (v := ?_) rfl (by kernel_rfl) (by kernel_rfl) (by kernel_rfl) (fun _ _ _ h => h) (Or.inl ⟨by rfl, ?_⟩) HHeld.out ?_
      rotate_left
      · intro w hSw; clear hSw; go_simp; try with_reducible rfl
      try simp only [Act.put, List.setIfInBounds_toArray, List.set_cons_zero, List.set_cons_succ]
      refine wpAnyH_take (i := 4) (oi := { dst := some 18, op := Op.load 62 (Operand.tmp 17), type := 62, pos := "ref.go:93", after := #[{ on := 3, ground := Ground.data }], guard := none }) (v := (.agg #[.int .u8 x.kd, .int .i64 x.sq, .string x.ky, .string x.to, .string x.vl, .int .u64 x.dl] : Value)) rfl (by kernel_rfl) (by kernel_rfl) (by kernel_rfl) (fun _ _ _ h => h) (Or.inl ⟨by rfl, ?_⟩) HHeld.out ?_
      · intro V hV; have hc0 := hV.2.2.2.1; have hc1 := hV.2.2.2.2.1; have hc2 := hV.2.2.2.2.2.1; have hc3 := hV.2.2.2.2.2.2.1; have hc4 := hV.2.2.2.2.2.2.2.1; have hc5 := hV.2.2.2.2.2.2.2.2; clear hV; go_simp
      try simp only [Act.put, List.setIfInBounds_toArray, List.set_cons_zero, List.set_cons_succ]
      refine wpAnyH_take (i := 5) (oi := { dst := some 19, op := Op.load 30 (Operand.tmp 3), type := 30, pos := "ref.go:93", after := #[], guard := none }) (v := (.agg #[.string a, .string b] : Value)) rfl (by kernel_rfl) (by kernel_rfl) (by kernel_rfl) (fun _ _ _ h => h) (Or.inl ⟨by rfl, ?_⟩) HHeld.out ?_
      · intro V hV; have hc0 := hV.2.1; have hc1 := hV.2.2.1; clear hV; go_simp
      try simp only [Act.put, List.setIfInBounds_toArray, List.set_cons_zero, List.set_cons_succ]
      refine wpAnyH_ready (rs := [6]) (by kernel_rfl) (by simp) ?_
      refine AllReadyH.cons (o := { dst := some 20, op := Op.call { callee := Callee.value (Operand.func 76), args := #[Operand.tmp 18, Operand.tmp 19], argTypes := #[62, 30] }, type := 25, pos := "ref.go:93", after := #[{ on := 4, ground := Ground.data }, { on := 5, ground := Ground.data }], guard := none }) rfl (fun K hK => ?_) AllReadyH.nil
      go_simp
      go_at_call 76; ((with_reducible refine (AC.out _).mono ?_); rintro e v5 ⟨⟨A5, q5, rfl, r5⟩, b5⟩; have B5 := Lib.hid (bel_trans HHeld.out.1 b5); have R5 := Lib.hid r5; clear b5 r5)
      refine hK.out _ _ ?_ (fun hHeld => ?_)
      · exact KS.out _ B5.out
      clear HHeld; have HHeld := Lib.hid hHeld; clear hHeld
      clear hK K
      try simp only [Act.put, List.setIfInBounds_toArray, List.set_cons_zero, List.set_cons_succ]
      refine wpAnyH_ready (rs := [7]) (by kernel_rfl) (by simp) ?_
      refine AllReadyH.cons (o := { dst := some 21, op := Op.call { callee := Callee.value (Operand.func 75), args := #[Operand.tmp 14, Operand.tmp 20], argTypes := #[25, 25] }, type := 25, pos := "ref.go:93", after := #[{ on := 0, ground := Ground.data }, { on := 6, ground := Ground.data }, { on := 6, ground := Ground.chain }], guard := none }) rfl (fun K hK => ?_) AllReadyH.nil
      have AD := Lib.hid (radd_any A' A5 m c' q q5 (resL a b (xs.take k)) L v5 HM.out HQ.out (by have := HMM.out; have := HQL.out; omega) (HR.out.later B5.out) R5.out)
      rw [HACC.out] at AD
      go_simp
      go_at_call 75; ((with_reducible refine AD.out.mono ?_); rintro e v6 ⟨⟨b6, o6, q6, rfl, r6, -, -⟩, bb6⟩; have B6 := Lib.hid (bel_trans B5.out bb6); have R6 := Lib.hid r6; clear bb6 r6)
      refine hK.out _ _ ?_ (fun hHeld => ?_)
      · exact KS.out _ B6.out
      clear HHeld; have HHeld := Lib.hid hHeld; clear hHeld
      clear hK K
      try simp only [Act.put, List.setIfInBounds_toArray, List.set_cons_zero, List.set_cons_succ]
      refine wpAnyH_take (i := 8) (oi := { dst := some 5, op := Op.assign (Operand.tmp 21), type := 25, pos := "ref.go:93", after := #[{ on := 7, ground := Ground.data }, { on := 7, ground := Ground.chain }, { on := 0, ground := Ground.phase }, { on := 1, ground := Ground.phase }, { on := 2, ground := Ground.phase }, { on := 3, ground := Ground.phase }, { on := 4, ground := Ground.phase }, { on := 5, ground := Ground.phase }, { on := 6, ground := Ground.phase }, { on := 7, ground := Ground.phase }], guard := none }) (v := ?_) rfl (by kernel_rfl) (by kernel_rfl) (by kernel_rfl) (fun _ _ _ h => h) (Or.inl ⟨by rfl, ?_⟩) HHeld.out ?_
      rotate_left
      · intro w hSw; clear hSw; go_simp; try with_reducible rfl
      try simp only [Act.put, List.setIfInBounds_toArray, List.set_cons_zero, List.set_cons_succ]
      refine wpAnyH_done (by kernel_rfl) ?_ _
      have BW := Lib.hid (bel_trans HB.out B6.out)
      have ZR2 := Lib.hid (keep_bel B6.out ZR.out)
      clear HHeld
      go_wp2
      exact ⟨⟨k + 1, _, _, _, by omega, by simp, rfl, Lib.hid (by rw [HNX.out]; simp), Lib.hid (by rw [HNX.out]; exact R6.out), BW.out, ZR2⟩, by simp [intOf]; omega⟩
    · have hk1 : ¬ (k : Int) < (n : Int) := by omega
      have e : xs.take k = xs := List.take_of_length_le (by rw [HL.out]; omega)
      rw [e] at HM HR
      have hm := HM.out
      subst hm
      go_wp2
      go_ret
      exact ⟨⟨_, _, rfl, HR.out⟩, HB.out⟩
end Go.Proofs.Ytilnpeekajnlhaa
namespace Go.Proofs.Ytilnpeekajnlhaa
open Go.RowKit Go.Maps
/-- The messages that are not for a kid. -/
def restL (ps : List ByteArray) (f t : ByteArray) (i : Int) (ms : List MG) : List MG := if Pv.spanB ps f t i = true then resL (Pv.spanF ps f t i).1 (Pv.spanF ps f t i).2 ms else ms
theorem flt_get : ∀ (ps : List (ByteArray × ByteArray)) (i : Nat) (x : ByteArray × ByteArray), ps[i]? = some x → (Pv.flt ps)[i * 2]? = some (.string x.1) ∧ (Pv.flt ps)[i * 2 + 1]? = some (.string x.2)
  | [], i, x, h => by simp at h
  | y :: ps, 0, x, h => by simp at h; subst h; simp [Pv.flt]
  | y :: ps, i + 1, x, h => by
    have := flt_get ps i x (by simpa using h)
    rw [show Pv.flt (y :: ps) = [.string y.1, .string y.2] ++ Pv.flt ps by simp [Pv.flt], show (i + 1) * 2 = i * 2 + 2 by omega]
    simpa using this
theorem rdp_get {w : World} {A : Option Addr} {ps : List (ByteArray × ByteArray)} (h : Pv.RdP w A ps) {i : Nat} {x : ByteArray × ByteArray} (hx : ps[i]? = some x) :
    ∃ b off, A = some ⟨b, off, none⟩ ∧ w.cell? ⟨b, off + i * 2, none⟩ = some (.string x.1) ∧ w.cell? ⟨b, off + i * 2 + 1, none⟩ = some (.string x.2) := by
  obtain ⟨h1, h2⟩ := flt_get ps i x hx
  obtain ⟨b, off, e, _, k1⟩ := Rd.get h h1
  obtain ⟨b', off', e', _, k2⟩ := Rd.get h h2
  rw [e] at e'
  cases e'
  exact ⟨b, off, e, k1, by rw [← Nat.add_assoc] at k2; exact k2⟩
theorem parts_at {ps : List ByteArray} {f t : ByteArray} {i : Int} (h : Pv.spanB ps f t i = true) : ∃ j : Nat, i = j ∧ j < (Pv.parts ps f t).length ∧ (Pv.parts ps f t)[j]? = some (Pv.spanF ps f t i) := by
  have h' := h
  unfold Pv.spanB at h'
  simp only [Bool.and_eq_true, decide_eq_true_eq] at h'
  obtain ⟨h1, h2, h3⟩ := h'
  obtain ⟨j, rfl⟩ := Int.eq_ofNat_of_zero_le h1
  have hm : Pv.many ps f t = ps.length + 1 := by unfold Pv.many; rw [if_pos h3]
  refine ⟨j, rfl, ?_, ?_⟩
  · unfold Pv.parts; rw [List.length_map, List.length_range, hm]; omega
  · unfold Pv.parts Pv.spanF
    rw [if_pos h, List.getElem?_map, List.getElem?_range (by rw [hm]; omega)]
    simp
theorem parts_far {ps : List ByteArray} {f t : ByteArray} {i : Int} (hr : Pv.rightB ps f t = true) (h : Pv.spanB ps f t i = false) : i < 0 ∨ ((Pv.parts ps f t).length : Int) ≤ i := by
  unfold Pv.spanB at h
  rw [hr, Bool.and_true] at h
  have hm : Pv.many ps f t = ps.length + 1 := by unfold Pv.many; rw [if_pos hr]
  have hp : (Pv.parts ps f t).length = ps.length + 1 := by unfold Pv.parts; rw [List.length_map, List.length_range, hm]
  rw [hp]
  by_cases h1 : 0 ≤ i
  · rw [decide_eq_true h1, Bool.true_and, decide_eq_false_iff_not] at h
    exact .inr (by omega)
  · exact .inl (by omega)
end Go.Proofs.Ytilnpeekajnlhaa
namespace Go.Proofs.Ytilnpeekajnlhaa
open Go.RowKit Go.Maps
theorem bel_dw {B : Nat} {a w : World} (h : Below B a w) : Below B a w.drew := ⟨h.os, h.tape, h.output, h.size, h.block⟩
set_option maxRecDepth 100000 in
set_option maxHeartbeats 8000000 in
theorem rfor14 (kd : Int) (P J M B : Option Addr) (n pc k kc m mc b bc : Nat) (ps : List ByteArray) (ms : List MG) (f t : ByteArray) (i : Int) (w : World) (hl : ps.length = n) (hn : n ≤ 100) (hP : Pv.RdS w P ps) (hr : Pv.rightB ps f t = true) (hm : ms.length = m) (hm1 : m ≤ 400) (hM : EG.Rd w M ms) (hms : rightB ms = true) :
    Calls Try.prog 12 #[NV kd (.slice P n pc) (.slice J k kc) (.slice M m mc) (.slice B b bc), .agg #[.string f, .string t], .int .i64 i] w (RowsOf (kidL ps f t i ms) w) := by
  have AL := Lib.hid (fun W (h : Below w.heap.size w W) => Pv.rspans_any P ps n pc f t W hl (by omega) (Rd.later hP h))
  have FA := Lib.hid (fun x y W (h : Below w.heap.size w W) => rfor_any x y M m mc ms W hm (by omega) (hM.later h))
  have HMM := Lib.hid (show ∀ W, Below w.heap.size w W → EG.Rd W M ms from fun W h => hM.later h)
  have HML := Lib.hid hm
  have HLN : Hid ((Pv.parts ps f t).length ≤ 101) := Lib.hid (by unfold Pv.parts; rw [List.length_map, List.length_range]; have := Pv.many_le ps f t; omega)
  clear hl hP hm hM hms
  have y1 := two_new w (NO kd (.slice P n pc) (.slice J k kc) (.slice M m mc) (.slice B b bc)) (rgc f t)
  have H0 := Lib.hid (bel_alloc (alb w (NO kd (.slice P n pc) (.slice J k kc) (.slice M m mc) (.slice B b bc))) (rgc f t))
  have Z := Lib.hid y1.1
  have Y := Lib.hid y1.2
  clear y1
  obtain ⟨c0, c1, c2, c3, c4⟩ := cells5 Z.out
  obtain ⟨d0, d1, -, -⟩ := has_two Y.out
  cases hs : Pv.spanB ps f t i
  · have hf := parts_far hr hs
    have HL : Hid (kidL ps f t i ms = []) := Lib.hid (by unfold kidL; rw [hs]; rfl)
    rw [HL.out]
    obtain ⟨q, hq⟩ : ∃ q, q = (Pv.parts ps f t).length := ⟨_, rfl⟩
    rw [← hq] at hf
    have HQ := Lib.hid hq
    unfold Pv.RSpansPost at AL
    rw [← hq] at AL
    clear hs hq hr
    by_cases hi : i < 0
    · go_enter Try.func12, Try.ntmps12
      go_wp2_with (first
        | (go_at_call 39; ((with_reducible refine (AL.out _ H0.out).mono ?_); rintro e w1 ⟨A1, a1, rfl, r1, b⟩; have H1 := Lib.hid (bel_trans H0.out b); replace Z := Lib.hid (keep_bel b Z.out); clear b r1 c0 c1 c2 c3 c4; obtain ⟨c0, c1, c2, c3, c4⟩ := cells5 Z.out))
        | fail)
      go_ret
      exact ⟨⟨_, _, rfl, .inl rfl⟩, bel_alloc H1.out _⟩
    · have hi2 : i ≥ (q : Int) := by omega
      have hi3 : (q : Int) ≤ i := hi2
      go_enter Try.func12, Try.ntmps12
      go_wp2_with (first
        | (go_at_call 39; ((with_reducible refine (AL.out _ H0.out).mono ?_); rintro e w1 ⟨A1, a1, rfl, r1, b⟩; have H1 := Lib.hid (bel_trans H0.out b); replace Z := Lib.hid (keep_bel b Z.out); clear b r1 c0 c1 c2 c3 c4; obtain ⟨c0, c1, c2, c3, c4⟩ := cells5 Z.out))
        | fail)
      go_ret
      exact ⟨⟨_, _, rfl, .inl rfl⟩, bel_alloc H1.out _⟩
  · obtain ⟨j, rfl, hjl, hj⟩ := parts_at hs
    have hx : kidL ps f t (j : Int) ms = forL (Pv.spanF ps f t j).1 (Pv.spanF ps f t j).2 ms := by unfold kidL; rw [if_pos hs]
    rw [hx]
    obtain ⟨⟨x, y⟩, hxy⟩ : ∃ z, z = Pv.spanF ps f t j := ⟨_, rfl⟩
    rw [← hxy] at hj ⊢
    have HJ := Lib.hid hj
    have hlt := hjl
    obtain ⟨q, hq⟩ : ∃ q, q = (Pv.parts ps f t).length := ⟨_, rfl⟩
    have HQ9 : q ≤ 101 := by rw [hq]; exact HLN.out
    unfold Pv.RSpansPost at AL
    rw [← hq] at AL hlt
    clear hs hx hxy hj hjl hq hr
    have hi0 : ¬ (j : Int) < 0 := by omega
    have hi1 : ¬ (j : Int) ≥ (q : Int) := by omega
    have hi2 : ¬ (q : Int) ≤ (j : Int) := by omega
    have hi3 : (j : Int) < (q : Int) := by omega
    have hi4 : (0 : Int) ≤ (j : Int) := by omega
    go_enter Try.func12, Try.ntmps12
    go_wp2_with (first
      | (go_at_call 39; ((with_reducible refine (AL.out _ H0.out).mono ?_); rintro e w1 ⟨A1, a1, rfl, r1, b⟩; obtain ⟨b0, off, rfl, k1, k2⟩ := rdp_get r1 HJ.out; have K1 := Lib.hid k1; have K2 := Lib.hid k2; have H1 := Lib.hid (bel_dw (bel_trans H0.out b)); have Z1 := Lib.hid (keep_bel b Z.out); clear b r1 c0 c1 c2 c3 c4 d0 d1 k1 k2))
      | fail)
    replace Z1 := Lib.hid (show w1.drew.heap[w.heap.size]? = some (NO kd (.slice P n pc) (.slice J k kc) (.slice M m mc) (.slice B b bc)) from Z1.out)
    replace K1 := Lib.hid (show w1.drew.cell? ⟨b0, off + j * 2, none⟩ = some (.string x) from K1.out)
    replace K2 := Lib.hid (show w1.drew.cell? ⟨b0, off + j * 2 + 1, none⟩ = some (.string y) from K2.out)
    refine wp_region_held_drew (S := (fun V : World => V.heap[w.heap.size]? = some (NO kd (.slice P n pc) (.slice J k kc) (.slice M m mc) (.slice B b bc)) ∧ V.cell? ⟨b0, off + j * 2, none⟩ = some (.string x) ∧ V.cell? ⟨b0, off + j * 2 + 1, none⟩ = some (.string y))) (by kernel_rfl) ?_ (fun hHeld => ?_)
    · exact ⟨Z1.out, K1.out, K2.out⟩
    have HHeld := Lib.hid hHeld; clear hHeld
    refine wpAnyH_take (i := 0) (oi := { dst := some 21, op := Op.fieldAddr 28 (Operand.tmp 3) 3, type := 0, pos := "ref.go:46", after := #[], guard := none }) (v := ?_) rfl (by kernel_rfl) (by kernel_rfl) (by kernel_rfl) (fun _ _ _ h => h) (Or.inl ⟨by rfl, ?_⟩) HHeld.out ?_
    rotate_left
    · intro w hSw; clear hSw; go_simp; try with_reducible rfl
    try simp only [Act.put, List.setIfInBounds_toArray, List.set_cons_zero, List.set_cons_succ]
    refine wpAnyH_take (i := 1) (oi := { dst := some 22, op := Op.load 25 (Operand.tmp 21), type := 25, pos := "ref.go:46", after := #[{ on := 0, ground := Ground.data }], guard := none }) (v := (.slice M m mc : Value)) rfl (by kernel_rfl) (by kernel_rfl) (by kernel_rfl) (fun _ _ _ h => h) (Or.inl ⟨by rfl, ?_⟩) HHeld.out ?_
    · intro V hV; have hc0 := (cells5 hV.1).2.2.2.1; clear hV; go_simp
    try simp only [Act.put, List.setIfInBounds_toArray, List.set_cons_zero, List.set_cons_succ]
    refine wpAnyH_take (i := 2) (oi := { dst := some 23, op := Op.move (Operand.tmp 7), type := 73, pos := "ref.go:46", after := #[], guard := none }) (v := ?_) rfl (by kernel_rfl) (by kernel_rfl) (by kernel_rfl) (fun _ _ _ h => h) (Or.inl ⟨by rfl, ?_⟩) HHeld.out ?_
    rotate_left
    · intro w hSw; clear hSw; go_simp; try with_reducible rfl
    try simp only [Act.put, List.setIfInBounds_toArray, List.set_cons_zero, List.set_cons_succ]
    refine wpAnyH_take (i := 3) (oi := { dst := some 24, op := Op.move (Operand.tmp 2), type := 3, pos := "ref.go:46", after := #[], guard := none }) (v := ?_) rfl (by kernel_rfl) (by kernel_rfl) (by kernel_rfl) (fun _ _ _ h => h) (Or.inl ⟨by rfl, ?_⟩) HHeld.out ?_
    rotate_left
    · intro w hSw; clear hSw; go_simp; try with_reducible rfl
    try simp only [Act.put, List.setIfInBounds_toArray, List.set_cons_zero, List.set_cons_succ]
    refine wpAnyH_take (i := 4) (oi := { dst := some 25, op := Op.indexAddr 73 (Operand.tmp 23) (Operand.tmp 24), type := 0, pos := "ref.go:46", after := #[{ on := 2, ground := Ground.data }, { on := 3, ground := Ground.data }], guard := none }) (v := ?_) rfl (by kernel_rfl) (by kernel_rfl) (by kernel_rfl) (fun _ _ _ h => h) (Or.inl ⟨by rfl, ?_⟩) HHeld.out ?_
    rotate_left
    · intro w hSw; clear hSw; go_simp; try with_reducible rfl
    try simp only [Act.put, List.setIfInBounds_toArray, List.set_cons_zero, List.set_cons_succ]
    refine wpAnyH_take (i := 5) (oi := { dst := some 26, op := Op.load 30 (Operand.tmp 25), type := 30, pos := "ref.go:46", after := #[{ on := 4, ground := Ground.data }], guard := none }) (v := (.agg #[.string x, .string y] : Value)) rfl (by kernel_rfl) (by kernel_rfl) (by kernel_rfl) (fun _ _ _ h => h) (Or.inl ⟨by rfl, ?_⟩) HHeld.out ?_
    · intro V hV; have hc0 := hV.2.1; have hc1 := hV.2.2; clear hV; go_simp
    try simp only [Act.put, List.setIfInBounds_toArray, List.set_cons_zero, List.set_cons_succ]
    refine wpAnyH_ready (rs := [6]) (by kernel_rfl) (by simp) ?_
    refine AllReadyH.cons (o := { dst := some 27, op := Op.call { callee := Callee.value (Operand.func 40), args := #[Operand.tmp 22, Operand.tmp 26], argTypes := #[25, 30] }, type := 25, pos := "ref.go:46", after := #[{ on := 1, ground := Ground.data }, { on := 5, ground := Ground.data }], guard := none }) rfl (fun K hK => ?_) AllReadyH.nil
    go_simp
    go_at_call 40
    with_reducible refine (FA.out x y _ H1.out).mono ?_
    rintro e w2 ⟨⟨A2, c2, rfl, r2⟩, b⟩
    have R2 := Lib.hid r2; have B2 := Lib.hid (bel_trans H1.out b); have K0 := Lib.hid (keep_bel b Z1.out); have K1 := Lib.hid (bel_later b K1.out); have K2 := Lib.hid (bel_later b K2.out); clear b r2
    refine hK.out _ _ ?_ (fun hHeld => ?_)
    · exact ⟨K0.out, K1.out, K2.out⟩
    clear HHeld; have HHeld := Lib.hid hHeld; clear hHeld
    clear hK K
    try simp only [Act.put, List.setIfInBounds_toArray, List.set_cons_zero, List.set_cons_succ]
    refine wpAnyH_take (i := 7) (oi := { dst := some 6, op := Op.assign (Operand.tmp 27), type := 25, pos := "ref.go:46", after := #[{ on := 6, ground := Ground.data }, { on := 6, ground := Ground.chain }, { on := 0, ground := Ground.phase }, { on := 1, ground := Ground.phase }, { on := 2, ground := Ground.phase }, { on := 3, ground := Ground.phase }, { on := 4, ground := Ground.phase }, { on := 5, ground := Ground.phase }, { on := 6, ground := Ground.phase }], guard := none }) (v := ?_) rfl (by kernel_rfl) (by kernel_rfl) (by kernel_rfl) (fun _ _ _ h => h) (Or.inl ⟨by rfl, ?_⟩) HHeld.out ?_
    rotate_left
    · intro w hSw; clear hSw; go_simp; try with_reducible rfl
    try simp only [Act.put, List.setIfInBounds_toArray, List.set_cons_zero, List.set_cons_succ]
    refine wpAnyH_done (by kernel_rfl) ?_ _
    clear HHeld
    go_wp2
    go_ret
    exact ⟨⟨A2, c2, rfl, R2.out⟩, B2.out⟩
set_option maxRecDepth 100000 in
set_option maxHeartbeats 8000000 in
theorem rrest14 (kd : Int) (P J M B : Option Addr) (n pc k kc m mc b bc : Nat) (ps : List ByteArray) (ms : List MG) (f t : ByteArray) (i : Int) (w : World) (hl : ps.length = n) (hn : n ≤ 100) (hP : Pv.RdS w P ps) (hr : Pv.rightB ps f t = true) (hm : ms.length = m) (hm1 : m ≤ 400) (hM : EG.Rd w M ms) (hms : rightB ms = true) :
    Calls Try.prog 15 #[NV kd (.slice P n pc) (.slice J k kc) (.slice M m mc) (.slice B b bc), .agg #[.string f, .string t], .int .i64 i] w (RowsOf (restL ps f t i ms) w) := by
  have AL := Lib.hid (fun W (h : Below w.heap.size w W) => Pv.rspans_any P ps n pc f t W hl (by omega) (Rd.later hP h))
  have FA := Lib.hid (fun x y W (h : Below w.heap.size w W) => rres_any x y M m mc ms W hm hm1 (hM.later h) (fun k _ => acc_right (resL_right (right_take hms k) x y)))
  have HMM := Lib.hid (show ∀ W, Below w.heap.size w W → EG.Rd W M ms from fun W h => hM.later h)
  have HML := Lib.hid hm
  have HLN : Hid ((Pv.parts ps f t).length ≤ 101) := Lib.hid (by unfold Pv.parts; rw [List.length_map, List.length_range]; have := Pv.many_le ps f t; omega)
  clear hl hP hm hM hms
  have y1 := two_new w (NO kd (.slice P n pc) (.slice J k kc) (.slice M m mc) (.slice B b bc)) (rgc f t)
  have H0 := Lib.hid (bel_alloc (alb w (NO kd (.slice P n pc) (.slice J k kc) (.slice M m mc) (.slice B b bc))) (rgc f t))
  have Z := Lib.hid y1.1
  have Y := Lib.hid y1.2
  clear y1
  obtain ⟨c0, c1, c2, c3, c4⟩ := cells5 Z.out
  obtain ⟨d0, d1, -, -⟩ := has_two Y.out
  cases hs : Pv.spanB ps f t i
  · have hf := parts_far hr hs
    have HL : Hid (restL ps f t i ms = ms) := Lib.hid (by unfold restL; rw [hs]; rfl)
    rw [HL.out]
    obtain ⟨q, hq⟩ : ∃ q, q = (Pv.parts ps f t).length := ⟨_, rfl⟩
    rw [← hq] at hf
    have HQ := Lib.hid hq
    unfold Pv.RSpansPost at AL
    rw [← hq] at AL
    clear hs hq hr
    by_cases hi : i < 0
    · go_enter Try.func15, Try.ntmps15
      go_wp2_with (first
        | (go_at_call 39; ((with_reducible refine (AL.out _ H0.out).mono ?_); rintro e w1 ⟨A1, a1, rfl, r1, b⟩; have H1 := Lib.hid (bel_trans H0.out b); replace Z := Lib.hid (keep_bel b Z.out); clear b r1 c0 c1 c2 c3 c4; obtain ⟨c0, c1, c2, c3, c4⟩ := cells5 Z.out))
        | fail)
      go_ret
      exact ⟨⟨M, mc, by rw [HML.out]; rfl, HMM.out _ H1.out⟩, H1.out⟩
    · have hi2 : i ≥ (q : Int) := by omega
      have hi3 : (q : Int) ≤ i := hi2
      go_enter Try.func15, Try.ntmps15
      go_wp2_with (first
        | (go_at_call 39; ((with_reducible refine (AL.out _ H0.out).mono ?_); rintro e w1 ⟨A1, a1, rfl, r1, b⟩; have H1 := Lib.hid (bel_trans H0.out b); replace Z := Lib.hid (keep_bel b Z.out); clear b r1 c0 c1 c2 c3 c4; obtain ⟨c0, c1, c2, c3, c4⟩ := cells5 Z.out))
        | fail)
      go_ret
      exact ⟨⟨M, mc, by rw [HML.out]; rfl, HMM.out _ H1.out⟩, H1.out⟩
  · obtain ⟨j, rfl, hjl, hj⟩ := parts_at hs
    have hx : restL ps f t (j : Int) ms = resL (Pv.spanF ps f t j).1 (Pv.spanF ps f t j).2 ms := by unfold restL; rw [if_pos hs]
    rw [hx]
    obtain ⟨⟨x, y⟩, hxy⟩ : ∃ z, z = Pv.spanF ps f t j := ⟨_, rfl⟩
    rw [← hxy] at hj ⊢
    have HJ := Lib.hid hj
    have hlt := hjl
    obtain ⟨q, hq⟩ : ∃ q, q = (Pv.parts ps f t).length := ⟨_, rfl⟩
    have HQ9 : q ≤ 101 := by rw [hq]; exact HLN.out
    unfold Pv.RSpansPost at AL
    rw [← hq] at AL hlt
    clear hs hx hxy hj hjl hq hr
    have hi0 : ¬ (j : Int) < 0 := by omega
    have hi1 : ¬ (j : Int) ≥ (q : Int) := by omega
    have hi2 : ¬ (q : Int) ≤ (j : Int) := by omega
    have hi3 : (j : Int) < (q : Int) := by omega
    have hi4 : (0 : Int) ≤ (j : Int) := by omega
    go_enter Try.func15, Try.ntmps15
    go_wp2_with (first
      | (go_at_call 39; ((with_reducible refine (AL.out _ H0.out).mono ?_); rintro e w1 ⟨A1, a1, rfl, r1, b⟩; obtain ⟨b0, off, rfl, k1, k2⟩ := rdp_get r1 HJ.out; have K1 := Lib.hid k1; have K2 := Lib.hid k2; have H1 := Lib.hid (bel_dw (bel_trans H0.out b)); have Z1 := Lib.hid (keep_bel b Z.out); clear b r1 c0 c1 c2 c3 c4 d0 d1 k1 k2))
      | fail)
    replace Z1 := Lib.hid (show w1.drew.heap[w.heap.size]? = some (NO kd (.slice P n pc) (.slice J k kc) (.slice M m mc) (.slice B b bc)) from Z1.out)
    replace K1 := Lib.hid (show w1.drew.cell? ⟨b0, off + j * 2, none⟩ = some (.string x) from K1.out)
    replace K2 := Lib.hid (show w1.drew.cell? ⟨b0, off + j * 2 + 1, none⟩ = some (.string y) from K2.out)
    refine wp_region_held_drew (S := (fun V : World => V.heap[w.heap.size]? = some (NO kd (.slice P n pc) (.slice J k kc) (.slice M m mc) (.slice B b bc)) ∧ V.cell? ⟨b0, off + j * 2, none⟩ = some (.string x) ∧ V.cell? ⟨b0, off + j * 2 + 1, none⟩ = some (.string y))) (by kernel_rfl) ?_ (fun hHeld => ?_)
    · exact ⟨Z1.out, K1.out, K2.out⟩
    have HHeld := Lib.hid hHeld; clear hHeld
    refine wpAnyH_take (i := 0) (oi := { dst := some 22, op := Op.fieldAddr 28 (Operand.tmp 3) 3, type := 0, pos := "ref.go:55", after := #[], guard := none }) (v := ?_) rfl (by kernel_rfl) (by kernel_rfl) (by kernel_rfl) (fun _ _ _ h => h) (Or.inl ⟨by rfl, ?_⟩) HHeld.out ?_
    rotate_left
    · intro w hSw; clear hSw; go_simp; try with_reducible rfl
    try simp only [Act.put, List.setIfInBounds_toArray, List.set_cons_zero, List.set_cons_succ]
    refine wpAnyH_take (i := 1) (oi := { dst := some 23, op := Op.load 25 (Operand.tmp 22), type := 25, pos := "ref.go:55", after := #[{ on := 0, ground := Ground.data }], guard := none }) (v := (.slice M m mc : Value)) rfl (by kernel_rfl) (by kernel_rfl) (by kernel_rfl) (fun _ _ _ h => h) (Or.inl ⟨by rfl, ?_⟩) HHeld.out ?_
    · intro V hV; have hc0 := (cells5 hV.1).2.2.2.1; clear hV; go_simp
    try simp only [Act.put, List.setIfInBounds_toArray, List.set_cons_zero, List.set_cons_succ]
    refine wpAnyH_take (i := 2) (oi := { dst := some 24, op := Op.move (Operand.tmp 7), type := 73, pos := "ref.go:55", after := #[], guard := none }) (v := ?_) rfl (by kernel_rfl) (by kernel_rfl) (by kernel_rfl) (fun _ _ _ h => h) (Or.inl ⟨by rfl, ?_⟩) HHeld.out ?_
    rotate_left
    · intro w hSw; clear hSw; go_simp; try with_reducible rfl
    try simp only [Act.put, List.setIfInBounds_toArray, List.set_cons_zero, List.set_cons_succ]
    refine wpAnyH_take (i := 3) (oi := { dst := some 25, op := Op.move (Operand.tmp 2), type := 3, pos := "ref.go:55", after := #[], guard := none }) (v := ?_) rfl (by kernel_rfl) (by kernel_rfl) (by kernel_rfl) (fun _ _ _ h => h) (Or.inl ⟨by rfl, ?_⟩) HHeld.out ?_
    rotate_left
    · intro w hSw; clear hSw; go_simp; try with_reducible rfl
    try simp only [Act.put, List.setIfInBounds_toArray, List.set_cons_zero, List.set_cons_succ]
    refine wpAnyH_take (i := 4) (oi := { dst := some 26, op := Op.indexAddr 73 (Operand.tmp 24) (Operand.tmp 25), type := 0, pos := "ref.go:55", after := #[{ on := 2, ground := Ground.data }, { on := 3, ground := Ground.data }], guard := none }) (v := ?_) rfl (by kernel_rfl) (by kernel_rfl) (by kernel_rfl) (fun _ _ _ h => h) (Or.inl ⟨by rfl, ?_⟩) HHeld.out ?_
    rotate_left
    · intro w hSw; clear hSw; go_simp; try with_reducible rfl
    try simp only [Act.put, List.setIfInBounds_toArray, List.set_cons_zero, List.set_cons_succ]
    refine wpAnyH_take (i := 5) (oi := { dst := some 27, op := Op.load 30 (Operand.tmp 26), type := 30, pos := "ref.go:55", after := #[{ on := 4, ground := Ground.data }], guard := none }) (v := (.agg #[.string x, .string y] : Value)) rfl (by kernel_rfl) (by kernel_rfl) (by kernel_rfl) (fun _ _ _ h => h) (Or.inl ⟨by rfl, ?_⟩) HHeld.out ?_
    · intro V hV; have hc0 := hV.2.1; have hc1 := hV.2.2; clear hV; go_simp
    try simp only [Act.put, List.setIfInBounds_toArray, List.set_cons_zero, List.set_cons_succ]
    refine wpAnyH_ready (rs := [6]) (by kernel_rfl) (by simp) ?_
    refine AllReadyH.cons (o := { dst := some 28, op := Op.call { callee := Callee.value (Operand.func 42), args := #[Operand.tmp 23, Operand.tmp 27], argTypes := #[25, 30] }, type := 25, pos := "ref.go:55", after := #[{ on := 1, ground := Ground.data }, { on := 5, ground := Ground.data }], guard := none }) rfl (fun K hK => ?_) AllReadyH.nil
    go_simp
    go_at_call 42
    with_reducible refine (FA.out x y _ H1.out).mono ?_
    rintro e w2 ⟨⟨A2, c2, rfl, r2⟩, b⟩
    have R2 := Lib.hid r2; have B2 := Lib.hid (bel_trans H1.out b); have K0 := Lib.hid (keep_bel b Z1.out); have K1 := Lib.hid (bel_later b K1.out); have K2 := Lib.hid (bel_later b K2.out); clear b r2
    refine hK.out _ _ ?_ (fun hHeld => ?_)
    · exact ⟨K0.out, K1.out, K2.out⟩
    clear HHeld; have HHeld := Lib.hid hHeld; clear hHeld
    clear hK K
    try simp only [Act.put, List.setIfInBounds_toArray, List.set_cons_zero, List.set_cons_succ]
    refine wpAnyH_take (i := 7) (oi := { dst := some 6, op := Op.assign (Operand.tmp 28), type := 25, pos := "ref.go:55", after := #[{ on := 6, ground := Ground.data }, { on := 6, ground := Ground.chain }, { on := 0, ground := Ground.phase }, { on := 1, ground := Ground.phase }, { on := 2, ground := Ground.phase }, { on := 3, ground := Ground.phase }, { on := 4, ground := Ground.phase }, { on := 5, ground := Ground.phase }, { on := 6, ground := Ground.phase }], guard := none }) (v := ?_) rfl (by kernel_rfl) (by kernel_rfl) (by kernel_rfl) (fun _ _ _ h => h) (Or.inl ⟨by rfl, ?_⟩) HHeld.out ?_
    rotate_left
    · intro w hSw; clear hSw; go_simp; try with_reducible rfl
    try simp only [Act.put, List.setIfInBounds_toArray, List.set_cons_zero, List.set_cons_succ]
    refine wpAnyH_done (by kernel_rfl) ?_ _
    clear HHeld
    go_wp2
    go_ret
    exact ⟨⟨A2, c2, rfl, R2.out⟩, B2.out⟩
end Go.Proofs.Ytilnpeekajnlhaa
namespace Go.Proofs.Ytilnpeekajnlhaa
open Go.RowKit Go.Maps
set_option maxRecDepth 10000 in
set_option maxHeartbeats 4000000 in
theorem take_row (a b : ByteArray) (A : Option Addr) (n cap : Nat) (xs : List MG) (w : World) (hl : xs.length = n) (hn : n ≤ 1000) (hA : EG.Rd w A xs) (ho : OkA xs) :
    Calls Try.prog 38 #[.slice A n cap, .agg #[.string a, .string b]] w fun r w' => (∃ A' c' B' d', r = .returned (TV A' (forL a b xs).length c' B' (resL a b xs).length d') ∧ EG.Row w' w.heap.size A' (forL a b xs) c' ∧ EG.Row w' w.heap.size B' (resL a b xs) d') ∧ Below w.heap.size w w' := by
  have HL := Lib.hid hl
  have HA := Lib.hid hA
  have HO := Lib.hid ho
  have H0 := Lib.hid (alb w (rgc a b))
  have z0 := Lib.hid (heap_alloc_new w (rgc a b))
  clear hl hA ho
  go_enter Try.func38, Try.ntmps38
  go_wp2
  go_loopw [6, 11] (fun sv iv wr => ∃ (k : Nat) (A' : Option Addr) (c' m : Nat), k ≤ n ∧ iv = .int .i64 k ∧ sv = .slice A' m c' ∧ (resL a b (xs.take k)).length = m ∧ EG.Row wr (w.alloc (rgc a b)).heap.size A' (resL a b (xs.take k)) c' ∧ Below (w.alloc (rgc a b)).heap.size (w.alloc (rgc a b)) wr) (fun _ i _ => n - (intOf i).toNat)
  case atStart => exact ⟨0, none, 0, 0, by omega, rfl, rfl, rfl, .inl ⟨rfl, rfl⟩, Below.refl _ _⟩
  case round =>
    obtain ⟨k, A', c', m, hk, rfl, rfl, hm, hr, hb⟩ := hrel
    have HM := Lib.hid hm
    have HR := Lib.hid hr
    have HB := Lib.hid (bel_trans H0.out hb)
    have HP := Lib.hid hb
    have ZR := Lib.hid (keep_bel hb z0.out)
    clear hm hr hb
    by_cases h8 : k < n
    · have hk1 : (k : Int) < (n : Int) := by omega
      have hk0 : (0 : Int) ≤ (k : Int) := by omega
      obtain ⟨x, hx⟩ : ∃ x, xs[k]? = some x := ⟨_, List.getElem?_eq_getElem (by rw [HL.out]; omega)⟩
      obtain ⟨b', off, rfl, hlt, g0, g1, g2, g3, g4, g5⟩ := eg_at (HA.out.later HB.out) hx
      have HNX := Lib.hid (resL_next (a := a) (b := b) hx)
      have AR := Lib.hid (rest_any x (HO.out.get hx) a b)
      have HMM : Hid (m ≤ 2000) := Lib.hid (by have := resL_len a b (xs.take k); have := take_le xs k; rw [HM.out] at *; omega)
      have HLL := Lib.hid (rest_len x a b)
      obtain ⟨d0, d1, -, -⟩ := has_two (keep_bel (alb wr (MO x)) ZR.out)
      clear hx hlt
      obtain ⟨L, hL⟩ : ∃ L, L = restM x a b := ⟨_, rfl⟩
      rw [← hL] at HNX AR HLL
      clear hL
      obtain ⟨q, hq⟩ : ∃ q, L.length = q := ⟨_, rfl⟩
      have HQ := Lib.hid hq
      rw [hq] at HLL AR
      clear hq
      go_wp2_with (first
        | (go_at_call 73; ((with_reducible refine (AR.out _).mono ?_); rintro e w1 ⟨⟨AL, cL, rfl, rl⟩, b1⟩; have RL := Lib.hid rl; have B1 := Lib.hid (bel_a b1); have RW := Lib.hid (HR.out.later B1.out); have BQ := Lib.hid (bel_trans HP.out B1.out); clear b1 rl))
        | (at_builtin; refine RE.wpList_put EG _ rfl (.tmp 15) (.tmp 18) rfl (base := (w.alloc (rgc a b)).heap.size) A' m c' _ AL q cL L rfl rfl RW.out HM.out (by have := HMM.out; omega) BQ.out.size HQ.out (by have := HLL.out; omega) RL.out ?_; intro A2 c2 w2 r1 r2 r3; have R1 := Lib.hid r1; have R2 := Lib.hid r2; clear r1 r2 r3)
        | fail)
      exact ⟨⟨k + 1, A2, c2, m + q, by omega, by simp, by simp, by rw [HNX.out, List.length_append, HM.out, HQ.out], by rw [HNX.out]; exact R1.out, BQ.out.trans (RE.Row.below R2.out RW.out (Nat.le_refl _) BQ.out.size)⟩, by simp [intOf]; omega⟩
    · have hk1 : ¬ (k : Int) < (n : Int) := by omega
      have e : xs.take k = xs := List.take_of_length_le (by rw [HL.out]; omega)
      rw [e] at HM HR
      have hm := HM.out
      subst hm
      have AF := Lib.hid (for_any a b A n cap xs wr HL.out hn (HA.out.later HB.out) HO.out)
      obtain ⟨d0, d1, -, -⟩ := has_two ZR.out
      go_wp2_with (first
        | (go_at_call 48; ((with_reducible refine AF.out.mono ?_); rintro e w1 ⟨⟨AL, cL, rfl, rl⟩, b1⟩; have RL := Lib.hid (rl.base HB.out.size); have RR := Lib.hid ((HR.out.later b1).base (show w.heap.size ≤ (w.alloc (rgc a b)).heap.size by simp)); have B1 := Lib.hid (bel_trans HB.out b1); clear b1 rl))
        | fail)
      refine bodyPost_ret (v := TV AL (forL a b xs).length cL A' (resL a b xs).length c') (by simp [results, Try.results38, go_sem]) rfl ⟨⟨_, _, _, _, rfl, RL.out, RR.out⟩, B1.out⟩
end Go.Proofs.Ytilnpeekajnlhaa
