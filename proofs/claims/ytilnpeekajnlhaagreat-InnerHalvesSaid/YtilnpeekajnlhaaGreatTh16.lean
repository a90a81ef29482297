/- Texts of the proof, one behind the other. -/
import Derived.Test.YtilnpeekajnlhaaGreatTh15
import Derived.Test.YtilnpeekajnlhaaGreatTh06
import Derived.Test.YtilnpeekajnlhaaGreatTh02
import Derived.Test.YtilnpeekajnlhaaGreatTh07
import Derived.Test.YtilnpeekajnlhaaGreatTh10
import Derived.Deep.RegionHeld3
import Derived.Test.YtilnpeekajnlhaaGreatTh11
import Derived.RangeFuncNested
import Derived.RangeFuncBound
import Derived.RangeFuncCalls
import Derived.RangeFuncLeaves
import Derived.Shelf.Abstract
import Derived.Shelf.RegionOpen
import Derived.OwnWalkIn
import Derived.TacticsInMore
import Derived.LoopNIn
import Derived.LoopIn
set_option linter.unusedVariables false
set_option linter.unusedSimpArgs false
namespace Go.Proofs.YtilnpeekajnlhaaGreat
open Go.RowKit Go.Maps
/-- The messages for a kid. -/
def kidL (ps : List ByteArray) (f t : ByteArray) (i : Int) (ms : List MG) : List MG := if Pv.spanB ps f t i = true then forL (Pv.spanF ps f t i).1 (Pv.spanF ps f t i).2 ms else []
set_option maxHeartbeats 4000000 in
theorem ifor_any (kd : Int) (P J M B : Option Addr) (n pc k kc m mc b bc : Nat) (ps : List ByteArray) (ms : List MG) (f t : ByteArray) (i : Int) (w : World) (hl : ps.length = n) (hn : n ≤ 100) (hP : Pv.RdS w P ps) (hk : k = n + 1) (hm : ms.length = m) (hm1 : m ≤ 1000) (hM : EG.Rd w M ms) (ho : OkA ms) :
    Calls Tryz.prog 19 #[NV kd (.slice P n pc) (.slice J k kc) (.slice M m mc) (.slice B b bc), .agg #[.string f, .string t], .int .i64 i] w fun r w' => (∃ A' c', r = .returned (.slice A' (kidL ps f t i ms).length c') ∧ EG.Row w' w.heap.size A' (kidL ps f t i ms) c') ∧ Below w.heap.size w w' := by
  have SP := Lib.hid (fun W (h : Below w.heap.size w W) => part_all kd P J M B n pc k kc m mc b bc ps f t i W hl hn (Rd.later hP h) hk)
  have FA := Lib.hid (fun x y W (h : Below w.heap.size w W) => for_any x y M m mc ms W hm hm1 (hM.later h) ho)
  have y1 := two_new w (NO kd (.slice P n pc) (.slice J k kc) (.slice M m mc) (.slice B b bc)) (rgc f t)
  have H0 := Lib.hid (bel_alloc (alb w (NO kd (.slice P n pc) (.slice J k kc) (.slice M m mc) (.slice B b bc))) (rgc f t))
  have Z := Lib.hid y1.1
  have Y := Lib.hid y1.2
  unfold kidL
  unfold Pv.SpanPost Pv.spv at SP
  obtain ⟨x, hx⟩ : ∃ x, x = (Pv.spanF ps f t i).1 := ⟨_, rfl⟩
  obtain ⟨y, hy⟩ : ∃ y, y = (Pv.spanF ps f t i).2 := ⟨_, rfl⟩
  rw [← hx, ← hy] at SP ⊢
  obtain ⟨c0, c1, c2, c3, c4⟩ := cells5 Z.out
  obtain ⟨d0, d1, -, -⟩ := has_two Y.out
  cases hok : Pv.spanB ps f t i
  · rw [hok] at SP
    clear hx hy hok hl hP hm hM ho hk y1
    go_enter Tryz.func19, Tryz.ntmps19
    go_wp2_with (first
      | (go_at_call 44; ((with_reducible refine (SP.out _ H0.out).mono ?_); rintro e w1 ⟨rfl, b1⟩; have B1 := Lib.hid (bel_trans H0.out b1); clear b1))
      | fail)
    go_ret
    exact ⟨⟨none, 0, rfl, RE.Row.nil⟩, bel_alloc B1.out _⟩
  · rw [hok] at SP
    clear hx hy hok hl hP hm hM ho hk y1
    go_enter Tryz.func19, Tryz.ntmps19
    go_wp2_with (first
      | (go_at_call 44; ((with_reducible refine (SP.out _ H0.out).mono ?_); rintro e w1 ⟨rfl, b1⟩; have B1 := Lib.hid (bel_alloc (bel_trans H0.out b1) (rgc x y)); have Z1 := Lib.hid (keep_bel (bel_trans b1 (alb w1 (rgc x y))) Z.out); clear b1 c0 c1 c2 c3 c4 d0 d1; obtain ⟨c0, c1, c2, c3, c4⟩ := cells5 Z1.out; obtain ⟨d0, d1, -, -⟩ := has_two (heap_alloc_new w1 (rgc x y))))
      | (go_at_call 45; ((with_reducible refine (FA.out x y _ B1.out).mono ?_); rintro e w2 ⟨⟨A', c', rfl, r2⟩, b2⟩; have R2 := Lib.hid r2; have B2 := Lib.hid (bel_trans B1.out b2); clear b2 r2))
      | fail)
    go_ret
    exact ⟨⟨A', c', rfl, R2.out.base B1.out.size⟩, B2.out⟩
end Go.Proofs.YtilnpeekajnlhaaGreat
namespace Go.Proofs.YtilnpeekajnlhaaGreat
open Go.RowKit Go.Maps
set_option maxRecDepth 100000 in
set_option maxHeartbeats 8000000 in
theorem rres_any (a b : ByteArray) (A : Option Addr) (n cap : Nat) (xs : List MG) (w : World) (hl : xs.length = n) (hn : n ≤ 400) (hA : EG.Rd w A xs) (hs : ∀ k, k ≤ n → accM [] (resL a b (xs.take k)) = resL a b (xs.take k)) :
    Calls Tryz.prog 25 #[.slice A n cap, .agg #[.string a, .string b]] w (RowsOf (resL a b xs) w) := by
  have HL := Lib.hid hl
  have HA := Lib.hid hA
  have HS := Lib.hid hs
  have H0 := Lib.hid (bel_alloc (alb w (rgc a b)) (.cells #[] 50))
  have z0 := Lib.hid (keep_bel (alb _ (.cells #[] 50)) (heap_alloc_new w (rgc a b)))
  clear hl hA hs
  go_enter Tryz.func25, Tryz.ntmps25
  go_wp2
  go_loopw [5, 6] (fun sv iv wr => ∃ (k : Nat) (A' : Option Addr) (c' m : Nat), k ≤ n ∧ iv = .int .i64 k ∧ sv = .slice A' m c' ∧ Hid ((resL a b (xs.take k)).length = m) ∧ Hid (EG.Rd wr A' (resL a b (xs.take k))) ∧ Below w.heap.size w wr ∧ Hid (wr.heap[w.heap.size]? = some (rgc a b))) (fun _ i _ => n - (intOf i).toNat)
  case atStart => exact ⟨0, _, 0, 0, by omega, rfl, rfl, Lib.hid rfl, Lib.hid (.inl rfl), H0.out, z0⟩
  case round =>
    obtain ⟨k, A', c', m, hk, rfl, rfl, HM, HR, hb, ZR⟩ := hrel
    have HB := Lib.hid hb
    clear hb
    by_cases h8 : k < n
    · have hk1 : (k : Int) < (n : Int) := by omega
      have hk0 : (0 : Int) ≤ (k : Int) := by omega
      obtain ⟨x, hx⟩ : ∃ x, xs[k]? = some x := ⟨_, List.getElem?_eq_getElem (by rw [HL.out]; omega)⟩
      obtain ⟨b', off, rfl, hlt, g0, g1, g2, g3, g4, g5⟩ := eg_at (HA.out.later HB.out) hx
      have HNX := Lib.hid (resL_next (a := a) (b := b) hx)
      have AC := Lib.hid (rrest_any x a b)
      have HMM : Hid (m ≤ 800) := Lib.hid (by have := resL_len a b (xs.take k); have := take_le xs k; rw [HM.out] at *; omega)
      obtain ⟨d0, d1, -, -⟩ := has_two ZR.out
      have HACC := Lib.hid (HS.out (k + 1) (by omega))
      obtain ⟨L, hL⟩ : ∃ L, restM x a b = L := ⟨_, rfl⟩
      have HQL : Hid (L.length ≤ 2) := Lib.hid (by rw [← hL]; exact rest_len x a b)
      rw [HNX.out] at HACC
      rw [hL] at HNX AC HACC
      obtain ⟨q, hq⟩ : ∃ q, L.length = q := ⟨_, rfl⟩
      have HQ := Lib.hid hq
      rw [hq] at HQL
      clear hx hlt hL
      have KS := Lib.hid (show ∀ W, Below wr.heap.size wr W → SF wr w.heap.size b' (off + k * 6) a b x W from fun W h => ⟨h, bel_later h d0, bel_later h d1, bel_later h g0, bel_later h g1, bel_later h g2, bel_later h g3, bel_later h g4, bel_later h g5⟩)
      clear d0 d1 g0 g1 g2 g3 g4 g5
      unfold RowsOf at AC
      rw [hq] at AC
      clear hq
      go_wp2_with fail
      refine wp_region_held_drew (S := (fun V : World => SF wr w.heap.size b' (off + k * 6) a b x V)) (by kernel_rfl) ?_ (fun hHeld => ?_)
      · exact KS.out _ ((Below.refl _ _).drew)
      have HHeld := Lib.hid hHeld; clear hHeld
      refine wT (i := 0) (oi := { dst := some 14, op := Op.move (Operand.tmp 5), type := 25, pos := "ref.go:93", after := #[], guard := none }) (v := ?_) rfl (Or.inl ⟨by rfl, ?_⟩) HHeld.out ?_
      rotate_left
      · intro w hSw; clear hSw; go_simp; try with_reducible rfl
      try simp only [pu, pn, s1, s2, s3]
      refine wT (i := 1) (oi := { dst := some 15, op := Op.move (Operand.tmp 0), type := 25, pos := "ref.go:93", after := #[], guard := none }) (v := ?_) rfl (Or.inl ⟨by rfl, ?_⟩) HHeld.out ?_
      rotate_left
      · intro w hSw; clear hSw; go_simp; try with_reducible rfl
      try simp only [pu, pn, s1, s2, s3]
      refine wT (i := 2) (oi := { dst := some 16, op := Op.move (Operand.tmp 6), type := 3, pos := "ref.go:93", after := #[], guard := none }) (v := ?_) rfl (Or.inl ⟨by rfl, ?_⟩) HHeld.out ?_
      rotate_left
      · intro w hSw; clear hSw; go_simp; try with_reducible rfl
      try simp only [pu, pn, s1, s2, s3]
      refine wT (i := 3) (oi := { dst := some 17, op := Op.indexAddr 25 (Operand.tmp 15) (Operand.tmp 16), type := 0, pos := "ref.go:93", after := #[{ on := 1, ground := Ground.data }, { on := 2, ground := Ground.data }], guard := none }) (v := ?_) rfl (Or.inl ⟨by rfl, ?_⟩) HHeld.out ?_
      rotate_left
      · intro w hSw; clear hSw; go_simp; try with_reducible rfl
      try simp only [pu, pn, s1, s2, s3]
      refine wT (i := 4) (oi := { dst := some 18, op := Op.load 50 (Operand.tmp 17), type := 50, pos := "ref.go:93", after := #[{ on := 3, ground := Ground.data }], guard := none }) (v := (.agg #[.int .u8 x.kd, .int .i64 x.sq, .string x.ky, .string x.to, .string x.vl, .int .u64 x.dl] : Value)) rfl (Or.inl ⟨by rfl, ?_⟩) HHeld.out ?_
      · intro V hV; have hc0 := hV.2.2.2.1; have hc1 := hV.2.2.2.2.1; have hc2 := hV.2.2.2.2.2.1; have hc3 := hV.2.2.2.2.2.2.1; have hc4 := hV.2.2.2.2.2.2.2.1; have hc5 := hV.2.2.2.2.2.2.2.2; clear hV; go_simp
      try simp only [pu, pn, s1, s2, s3]
      refine wT (i := 5) (oi := { dst := some 19, op := Op.load 30 (Operand.tmp 3), type := 30, pos := "ref.go:93", after := #[], guard := none }) (v := (.agg #[.string a, .string b] : Value)) rfl (Or.inl ⟨by rfl, ?_⟩) HHeld.out ?_
      · intro V hV; have hc0 := hV.2.1; have hc1 := hV.2.2.1; clear hV; go_simp
      try simp only [pu, pn, s1, s2, s3]
      refine wpAnyH_ready (rs := [6]) (by kernel_rfl) (by simp) ?_
      refine AllReadyH.cons (o := { dst := some 20, op := Op.call { callee := Callee.value (Operand.func 55), args := #[Operand.tmp 18, Operand.tmp 19], argTypes := #[50, 30] }, type := 25, pos := "ref.go:93", after := #[{ on := 4, ground := Ground.data }, { on := 5, ground := Ground.data }], guard := none }) rfl (fun K hK => ?_) AllReadyH.nil
      go_simp
      go_at_call 55; ((with_reducible refine (AC.out _).mono ?_); rintro e v5 ⟨⟨A5, q5, rfl, r5⟩, b5⟩; have B5 := Lib.hid (bel_trans HHeld.out.1 b5); have R5 := Lib.hid r5; clear b5 r5)
      refine hK.out _ _ ?_ (fun hHeld => ?_)
      · exact KS.out _ B5.out
      clear HHeld; have HHeld := Lib.hid hHeld; clear hHeld
      clear hK K
      try simp only [pu, pn, s1, s2, s3]
      refine wpAnyH_ready (rs := [7]) (by kernel_rfl) (by simp) ?_
      refine AllReadyH.cons (o := { dst := some 21, op := Op.call { callee := Callee.value (Operand.func 38), args := #[Operand.tmp 14, Operand.tmp 20], argTypes := #[25, 25] }, type := 25, pos := "ref.go:93", after := #[{ on := 0, ground := Ground.data }, { on := 6, ground := Ground.data }, { on := 6, ground := Ground.chain }], guard := none }) rfl (fun K hK => ?_) AllReadyH.nil
      have AD := Lib.hid (radd_any A' A5 m c' q q5 (resL a b (xs.take k)) L v5 HM.out HQ.out (by have := HMM.out; have := HQL.out; omega) (HR.out.later B5.out) R5.out)
      rw [HACC.out] at AD
      go_simp
      go_at_call 38; ((with_reducible refine AD.out.mono ?_); rintro e v6 ⟨⟨b6, o6, q6, rfl, r6, -, -⟩, bb6⟩; have B6 := Lib.hid (bel_trans B5.out bb6); have R6 := Lib.hid r6; clear bb6 r6)
      refine hK.out _ _ ?_ (fun hHeld => ?_)
      · exact KS.out _ B6.out
      clear HHeld; have HHeld := Lib.hid hHeld; clear hHeld
      clear hK K
      try simp only [pu, pn, s1, s2, s3]
      refine wT (i := 8) (oi := { dst := some 5, op := Op.assign (Operand.tmp 21), type := 25, pos := "ref.go:93", after := #[{ on := 7, ground := Ground.data }, { on := 7, ground := Ground.chain }, { on := 0, ground := Ground.phase }, { on := 1, ground := Ground.phase }, { on := 2, ground := Ground.phase }, { on := 3, ground := Ground.phase }, { on := 4, ground := Ground.phase }, { on := 5, ground := Ground.phase }, { on := 6, ground := Ground.phase }, { on := 7, ground := Ground.phase }], guard := none }) (v := ?_) rfl (Or.inl ⟨by rfl, ?_⟩) HHeld.out ?_
      rotate_left
      · intro w hSw; clear hSw; go_simp; try with_reducible rfl
      try simp only [pu, pn, s1, s2, s3]
      refine wpAnyH_done (by kernel_rfl) ?_ _
      have BW := Lib.hid (bel_trans HB.out B6.out)
      have ZR2 := Lib.hid (keep_bel B6.out ZR.out)
      clear HHeld
      go_wp2
      exact ⟨⟨k + 1, _, _, _, by omega, by simp, rfl, Lib.hid (by rw [HNX.out]; simp), Lib.hid (by rw [HNX.out]; exact R6.out), BW.out, ZR2⟩, by simp [intOf]; omega⟩
    · have hk1 : ¬ (k : Int) < (n : Int) := by omega
      have e : xs.take k = xs := List.take_of_length_le (by rw [HL.out]; omega)
      rw [e] at HM HR
      have hm := HM.out
      subst hm
      go_wp2
      go_ret
      exact ⟨⟨_, _, rfl, HR.out⟩, HB.out⟩
end Go.Proofs.YtilnpeekajnlhaaGreat
namespace Go.Proofs.YtilnpeekajnlhaaGreat
open Go.RowKit Go.Maps
end Go.Proofs.YtilnpeekajnlhaaGreat
namespace Go.Proofs.YtilnpeekajnlhaaGreat
open Go.RowKit Go.Maps
theorem nlt_tr {a b c : ByteArray} (h1 : lt b a = false) (h2 : lt c b = false) : lt c a = false := by
  unfold lt at *
  rcases bl_tri c.toList a.toList with k | k | k
  · rcases bl_tri b.toList a.toList with q | q | q
    · rw [h1] at q; cases q
    · rw [← q] at k; rw [h2] at k; cases k
    · have := bl_trans _ _ _ k q; rw [h2] at this; cases this
  · rw [k]; exact bl_irr _
  · exact bl_asymm _ _ k
theorem bef_tr {a b c : ByteArray} (h1 : bef a b = false) (h2 : bef b c = false) : bef a c = false := by
  unfold bef at *
  cases ea : emp a
  · rw [ea] at h1
    cases eb : emp b
    · rw [eb] at h1 h2
      simp at h1 h2
      cases ec : emp c
      · simp [ec] at h2
        simp [ec, nlt_tr h2 h1]
      · simp [ec] at h2
    · rw [eb] at h1
      simp at h1
  · simp
end Go.Proofs.YtilnpeekajnlhaaGreat
namespace Go.Proofs.YtilnpeekajnlhaaGreat
theorem ahead_asymm {a b : MG} (h : aheadM a b = true) : aheadM b a = false := by
  unfold aheadM at *
  simp only [Bool.or_eq_true, Bool.and_eq_true, decide_eq_true_eq, beq_iff_eq] at h
  rcases h with h | ⟨h, k⟩
  · have h1 : ¬ b.sq < a.sq := by omega
    have h2 : (b.sq == a.sq) = false := by rw [beq_eq_false_iff_ne]; omega
    simp [h1, h2]
  · rw [h, nlt_of_lt k]; simp
theorem ahead_irr (a : MG) : aheadM a a = false := by unfold aheadM; simp [lt_irr]
theorem nahead_trans {a b c : MG} (h1 : aheadM b a = false) (h2 : aheadM c b = false) : aheadM c a = false := by
  unfold aheadM at *
  simp only [Bool.or_eq_false_iff, Bool.and_eq_false_iff, decide_eq_false_iff_not, beq_eq_false_iff_ne] at *
  obtain ⟨a1, a2⟩ := h1
  obtain ⟨b1, b2⟩ := h2
  refine ⟨by omega, ?_⟩
  by_cases e : c.sq = a.sq
  · right
    have e1 : b.sq = a.sq := by omega
    have e2 : c.sq = b.sq := by omega
    exact nlt_trans (a2.resolve_left (fun h => h e1)) (b2.resolve_left (fun h => h e2))
  · exact .inl e
theorem ahead_le {a b c : MG} (h1 : aheadM a b = true) (h2 : aheadM c b = false) : aheadM a c = true := by
  cases h : aheadM a c
  · have := nahead_trans (a := b) (b := c) (c := a) h2 h
    rw [this] at h1; cases h1
  · rfl
theorem le_ahead {a b c : MG} (h1 : aheadM b a = false) (h2 : aheadM b c = true) : aheadM a c = true := by
  cases h : aheadM a c
  · have := nahead_trans (a := c) (b := a) (c := b) h h1
    rw [this] at h2; cases h2
  · rfl
/-- Neither stands ahead of the other. -/
def eqv (a b : MG) : Bool := !aheadM a b && !aheadM b a
theorem eqv_self (a : MG) : eqv a a = true := by unfold eqv; simp [ahead_irr]
theorem eqv_iff {a b : MG} : eqv a b = true ↔ aheadM a b = false ∧ aheadM b a = false := by unfold eqv; simp
/-- Messages in order. -/
def Srt (L : List MG) : Prop := L.Pairwise fun p x => aheadM x p = false
theorem insK_above {m : MG} {xs : List MG} : ∀ {k i : Nat} {y : MG}, insK m xs k ≤ i → i < k → xs[i]? = some y → aheadM m y = true
  | 0, i, y, _, h, _ => by omega
  | k + 1, i, y, h1, h2, h3 => by
    unfold insK at h1
    split at h1
    · next z hz =>
      split at h1
      · next ha =>
        rcases (by omega : i = k ∨ i < k) with e | e
        · subst e; rw [hz] at h3; cases h3; exact ha
        · exact insK_above h1 e h3
      · omega
    · omega
theorem insK_below {m : MG} {xs : List MG} (hs : Srt xs) : ∀ {k i : Nat} {y : MG}, k ≤ xs.length → i < insK m xs k → xs[i]? = some y → aheadM m y = false
  | 0, i, y, _, h, _ => by unfold insK at h; omega
  | k + 1, i, y, hk, h, h3 => by
    have hz : xs[k]? = some (xs[k]'(by omega)) := List.getElem?_eq_getElem (by omega)
    cases ha : aheadM m (xs[k]'(by omega))
    · rw [insK_no hz ha] at h
      rcases (by omega : i = k ∨ i < k) with e | e
      · subst e; rw [hz] at h3; cases h3; exact ha
      · unfold Srt at hs
        rw [List.pairwise_iff_getElem] at hs
        obtain ⟨q1, q2⟩ := List.getElem?_eq_some_iff.1 h3
        have := hs i k q1 (by omega) e
        rw [q2] at this
        exact nahead_trans this ha
    · rw [insK_yes hz ha] at h
      exact insK_below hs (by omega) h h3
theorem take_mem {α : Type} {xs : List α} {k : Nat} {y : α} (h : y ∈ xs.take k) : ∃ i, i < k ∧ xs[i]? = some y := by
  obtain ⟨i, hi, e⟩ := List.mem_iff_getElem.1 h
  rw [List.length_take] at hi
  refine ⟨i, by omega, ?_⟩
  rw [List.getElem_take] at e
  rw [List.getElem?_eq_getElem (by omega), e]
theorem drop_mem {α : Type} {xs : List α} {k : Nat} {y : α} (h : y ∈ xs.drop k) : ∃ i, k ≤ i ∧ i < xs.length ∧ xs[i]? = some y := by
  obtain ⟨i, hi, e⟩ := List.mem_iff_getElem.1 h
  rw [List.length_drop] at hi
  refine ⟨k + i, by omega, by omega, ?_⟩
  rw [List.getElem_drop] at e
  rw [List.getElem?_eq_getElem (by omega), e]
theorem ins_above {m : MG} {xs : List MG} {y : MG} (h : y ∈ xs.drop (insK m xs xs.length)) : aheadM m y = true := by
  obtain ⟨i, h1, h2, h3⟩ := drop_mem h
  exact insK_above h1 h2 h3
theorem ins_below {m : MG} {xs : List MG} (hs : Srt xs) {y : MG} (h : y ∈ xs.take (insK m xs xs.length)) : aheadM m y = false := by
  obtain ⟨i, h1, h2⟩ := take_mem h
  exact insK_below hs (Nat.le_refl _) h1 h2
theorem srt_ins {m : MG} {xs : List MG} (hs : Srt xs) : Srt (insM m xs) := by
  have hsp : Srt (xs.take (insK m xs xs.length) ++ xs.drop (insK m xs xs.length)) := by rw [List.take_append_drop]; exact hs
  unfold Srt at hsp
  rw [List.pairwise_append] at hsp
  unfold insM Srt
  rw [List.append_assoc, List.pairwise_append]
  refine ⟨hsp.1, ?_, fun a ha b hb => ?_⟩
  · rw [List.singleton_append, List.pairwise_cons]
    exact ⟨fun b hb => ahead_asymm (ins_above hb), hsp.2.1⟩
  · rw [List.singleton_append] at hb
    rcases List.mem_cons.1 hb with e | hb
    · rw [e]; exact ins_below hs ha
    · exact hsp.2.2 a ha b hb
theorem filter_ins (z m : MG) (xs : List MG) : (insM m xs).filter (eqv z) = xs.filter (eqv z) ++ (if eqv z m then [m] else []) := by
  unfold insM
  rw [List.filter_append, List.filter_append]
  have e : xs.filter (eqv z) = (xs.take (insK m xs xs.length)).filter (eqv z) ++ (xs.drop (insK m xs xs.length)).filter (eqv z) := by rw [← List.filter_append, List.take_append_drop]
  rw [e]
  cases h : eqv z m
  · simp [h]
  · have hd : (xs.drop (insK m xs xs.length)).filter (eqv z) = [] := by
      rw [List.filter_eq_nil_iff]
      intro y hy
      have h1 := ins_above hy
      have h2 := eqv_iff.1 h
      intro h3
      have h4 := eqv_iff.1 h3
      rw [le_ahead (a := z) (b := m) h2.2 h1] at h4
      cases h4.1
    rw [hd]
    simp [h]
theorem srt_acc (ys : List MG) : ∀ {acc : List MG}, Srt acc → Srt (accM acc ys) := by
  induction ys with
  | nil => intro acc h; exact h
  | cons y ys ih => intro acc h; exact ih (srt_ins h)
theorem filter_acc (z : MG) (ys : List MG) : ∀ (acc : List MG), (accM acc ys).filter (eqv z) = acc.filter (eqv z) ++ ys.filter (eqv z) := by
  induction ys with
  | nil => intro acc; simp [accM]
  | cons y ys ih =>
    intro acc
    show (accM (insM y acc) ys).filter (eqv z) = _
    rw [ih, filter_ins, List.filter_cons]
    cases eqv z y <;> simp
/-- Messages in order, those alike as they stood. -/
def stab (L : List MG) : List MG := accM [] L
theorem srt_stab (L : List MG) : Srt (stab L) := srt_acc L List.Pairwise.nil
theorem stab_filter (z : MG) (L : List MG) : (stab L).filter (eqv z) = L.filter (eqv z) := by unfold stab; rw [filter_acc]; simp
theorem stab_len (L : List MG) : (stab L).length = L.length := by unfold stab; rw [accM_len]; simp
theorem mem_of_filter {R L : List MG} (h : ∀ z, R.filter (eqv z) = L.filter (eqv z)) {x : MG} (hx : x ∈ R) : x ∈ L := by
  have : x ∈ R.filter (eqv x) := List.mem_filter.2 ⟨hx, eqv_self x⟩
  rw [h x] at this
  exact (List.mem_filter.1 this).1
theorem stab_mem {L : List MG} {x : MG} (h : x ∈ stab L) : x ∈ L := mem_of_filter (fun z => stab_filter z L) h
theorem uniq {R : List MG} : ∀ {R2 : List MG}, Srt R → Srt R2 → (∀ z, R.filter (eqv z) = R2.filter (eqv z)) → R = R2 := by
  induction R with
  | nil =>
    intro R2 _ _ h
    cases R2 with
    | nil => rfl
    | cons y ys => have := mem_of_filter (fun z => (h z).symm) (x := y) List.mem_cons_self; cases this
  | cons x xs ih =>
    intro R2 h1 h2 h
    cases R2 with
    | nil => have := mem_of_filter h (x := x) List.mem_cons_self; cases this
    | cons y ys =>
      unfold Srt at h1 h2
      have hx : x ∈ y :: ys := mem_of_filter h List.mem_cons_self
      have hy : y ∈ x :: xs := mem_of_filter (fun z => (h z).symm) List.mem_cons_self
      rw [List.pairwise_cons] at h1 h2
      have exy : eqv x y = true := by
        refine eqv_iff.2 ⟨?_, ?_⟩
        · rcases List.mem_cons.1 hx with e | hx
          · rw [e]; exact ahead_irr _
          · exact h2.1 x hx
        · rcases List.mem_cons.1 hy with e | hy
          · rw [e]; exact ahead_irr _
          · exact h1.1 y hy
      have q := h x
      rw [List.filter_cons, List.filter_cons, eqv_self, exy] at q
      simp only [if_true] at q
      injection q with q1 q2
      subst q1
      congr 1
      refine ih h1.2 h2.2 (fun z => ?_)
      have qz := h z
      rw [List.filter_cons, List.filter_cons] at qz
      cases hz : eqv z x
      · simpa [hz] using qz
      · simp only [hz, if_true] at qz
        injection qz
theorem stab_of {R L : List MG} (h1 : Srt R) (h2 : ∀ z, R.filter (eqv z) = L.filter (eqv z)) : R = stab L :=
  uniq h1 (srt_stab L) (fun z => by rw [h2, stab_filter])
/-- Two rows in order, merged in two parts. -/
theorem merge_parts {U1 U2 V1 V2 : List MG} (hU : Srt (U1 ++ U2)) (hV : Srt (V1 ++ V2)) (h1 : ∀ x ∈ V1, ∀ y ∈ U2, aheadM x y = true) (h2 : ∀ x ∈ U1, ∀ y ∈ V2, aheadM y x = false) :
    stab (U1 ++ V1) ++ stab (U2 ++ V2) = stab ((U1 ++ U2) ++ (V1 ++ V2)) := by
  unfold Srt at hU hV
  rw [List.pairwise_append] at hU hV
  refine stab_of ?_ (fun z => ?_)
  · unfold Srt
    rw [List.pairwise_append]
    refine ⟨srt_stab _, srt_stab _, fun x hx y hy => ?_⟩
    rcases List.mem_append.1 (stab_mem hx) with hx | hx <;> rcases List.mem_append.1 (stab_mem hy) with hy | hy
    · exact hU.2.2 x hx y hy
    · exact h2 x hx y hy
    · exact ahead_asymm (h1 x hx y hy)
    · exact hV.2.2 x hx y hy
  · rw [List.filter_append, stab_filter, stab_filter]
    simp only [List.filter_append, List.append_assoc]
    congr 1
    rw [← List.append_assoc, ← List.append_assoc]
    congr 1
    cases hv : V1.filter (eqv z) with
    | nil => simp
    | cons x xs =>
      have hx := List.mem_filter.1 (hv ▸ List.mem_cons_self : x ∈ V1.filter (eqv z))
      have : U2.filter (eqv z) = [] := by
        rw [List.filter_eq_nil_iff]
        intro y hy h3
        have a1 := eqv_iff.1 hx.2
        have a2 := eqv_iff.1 h3
        have := h1 x hx.1 y hy
        rw [le_ahead (a := z) (b := x) a1.2 this] at a2
        cases a2.1
      rw [this]; simp
theorem stab_stab (M N : List MG) : stab (stab M ++ stab N) = stab (M ++ N) := by
  refine (stab_of (srt_stab _) (fun z => ?_))
  rw [stab_filter, List.filter_append, stab_filter, stab_filter, List.filter_append]
theorem stab_srt {L : List MG} (h : Srt L) : stab L = L := (stab_of h (fun _ => rfl)).symm
theorem ord_ahead (a b : MG) : decide (ordM a b < 0) = aheadM a b := by
  unfold ordM orI cmpI cmpS aheadM
  by_cases h : a.sq < b.sq
  · simp [h]
  · by_cases h2 : b.sq < a.sq
    · have h3 : (a.sq == b.sq) = false := by rw [beq_eq_false_iff_ne]; omega
      simp [h, h2, h3]
    · have h3 : a.sq = b.sq := by omega
      rw [h3]
      cases k : lt a.ky b.ky
      · cases k2 : lt b.ky a.ky <;> simp [k, k2]
      · simp [k]
end Go.Proofs.YtilnpeekajnlhaaGreat
namespace Go.Proofs.YtilnpeekajnlhaaGreat
open Go.RowKit Go.Maps
abbrev SzOk (a : ByteArray) : Prop := a.size ≤ 140737488355328
theorem meet_ok {a0 a1 b0 b1 : ByteArray} (h0 : SzOk a0) (h1 : SzOk a1) (k0 : SzOk b0) (k1 : SzOk b1) : SzOk (meetF a0 a1 b0 b1).1 ∧ SzOk (meetF a0 a1 b0 b1).2.1 := by
  unfold meetF
  split
  · split
    · exact ⟨h0, h1⟩
    · unfold meetE
      split
      · refine ⟨?_, ?_⟩
        · show SzOk (maxS a0 b0); unfold maxS; split <;> assumption
        · show SzOk (firstS a1 b1); unfold firstS; split <;> assumption
      · exact ⟨by decide, by decide⟩
  · exact ⟨by decide, by decide⟩
theorem zm_ok : zM.Ok := by refine ⟨?_, ?_, ?_⟩ <;> decide
theorem clip_ok {m : MG} (hm : m.Ok) {a b : ByteArray} (ha : SzOk a) (hb : SzOk b) : (clipM m a b).1.Ok := by
  unfold clipM
  split
  · split
    · exact hm
    · exact zm_ok
  · split
    · split
      · have q := meet_ok hm.1 hm.2.1 ha hb
        exact ⟨q.1, q.2, hm.2.2⟩
      · exact zm_ok
    · exact zm_ok
theorem rest_ok {m : MG} (hm : m.Ok) {a b : ByteArray} (ha : SzOk a) (hb : SzOk b) : OkA (restM m a b) := by
  have q := clip_ok hm ha hb
  intro x hx
  unfold restM restQ at hx
  split at hx
  · split at hx
    · cases hx
    · rw [List.mem_singleton.1 hx]; exact hm
  · split at hx
    · split at hx
      · rcases List.mem_append.1 hx with hx | hx
        · split at hx
          · rw [List.mem_singleton.1 hx]; exact ⟨hm.1, q.1, hm.2.2⟩
          · cases hx
        · split at hx
          · rw [List.mem_singleton.1 hx]; exact ⟨q.2.1, hm.2.1, hm.2.2⟩
          · cases hx
      · rw [List.mem_singleton.1 hx]; exact hm
    · cases hx
theorem forL_ok {xs : List MG} (ho : OkA xs) {a b : ByteArray} (ha : SzOk a) (hb : SzOk b) : OkA (forL a b xs) := by
  intro x hx
  obtain ⟨m, hm, hx⟩ := List.mem_flatMap.1 hx
  split at hx
  · rw [List.mem_singleton.1 hx]; exact clip_ok (ho m hm) ha hb
  · cases hx
theorem resL_ok {xs : List MG} (ho : OkA xs) {a b : ByteArray} (ha : SzOk a) (hb : SzOk b) : OkA (resL a b xs) := by
  intro x hx
  obtain ⟨m, hm, hx⟩ := List.mem_flatMap.1 hx
  exact rest_ok (ho m hm) ha hb x hx

end Go.Proofs.YtilnpeekajnlhaaGreat
namespace Go.Proofs.YtilnpeekajnlhaaGreat
open Go.ChangeShapes Go.WideShapes Go.ChangeAt Go.RowKit Go.Joins
theorem od_n28 : Tryz.prog.cellsOf 28 = 5 := by kernel_rfl
theorem od_n22 : Tryz.prog.cellsOf 22 = 1 := by kernel_rfl
theorem od_n23 : Tryz.prog.cellsOf 23 = 1 := by kernel_rfl
theorem od_n24 : Tryz.prog.cellsOf 24 = 1 := by kernel_rfl
theorem od_n25 : Tryz.prog.cellsOf 25 = 1 := by kernel_rfl
theorem od_n26 : Tryz.prog.cellsOf 26 = 1 := by kernel_rfl
theorem str_cell {H : Type} {enc : TypeId × Value → H} {w : World} {base : Nat} {spare : Nat → Bool} {held : Bool} {n : Nat} {a : Addr} {cs : List Value} {x : DataW H × List MemPlace}
    (hc : w.cells? base a 1 = some cs) (h : DataW.trod enc Tryz.prog w base spare held n 9 cs = some x) (hw : ∀ q ∈ x.1.weights Tryz.prog 9, q ≤ reachBytes) :
    ∃ t : ByteArray, (∀ j u, (ES.cs t)[j]? = some u → w.cell? (a.add j) = some u) ∧ SzOk t := by
  obtain ⟨_, hl, hi⟩ := World.cells?_some hc
  match cs, hl with
  | [c0], _ =>
    obtain ⟨p2, e2, z2, _⟩ := DataW.trod_string Tryz.underlying9 h
    simp at e2
    subst e2
    have hr : reachBytes ≤ 140737488355328 := by decide
    refine ⟨p2, fun j u hu => ?_, ?_⟩
    · match j, hu with
      | 0, hu => simp [ES] at hu; subst hu; simpa using hi 0 (by omega)
      | j + 1, hu => simp [ES] at hu
    · exact Nat.le_trans (hw p2.size (by rw [z2]; simp [DataW.weights])) hr
theorem strs_open {H : Type} {enc : TypeId × Value → H} {w : World} {base : Nat} {spare : Nat → Bool} {held : Bool} {a : Option Addr} {n c : Nat} {d : DataW H} {p : List MemPlace} (h : DataW.Trod enc Tryz.prog w base spare held 23 (.slice a n c) d p) (hw : ∀ q ∈ d.weights Tryz.prog 23, q ≤ reachBytes) :
    ∃ xs, n ≤ c ∧ c ≤ maxLen ∧ xs.length = n ∧ ES.Rd w a xs ∧ (∀ x ∈ xs, SzOk x) := by
  obtain ⟨fuel, hf⟩ := h
  rcases Go.Deep.open_slice Tryz.underlying23 hf with ⟨hcs, _⟩ | ⟨x, l, c', m, n', D, Pl, hcs, _, hl, hm, hmm, hxe, hx⟩
  · simp [Value.cells] at hcs
    obtain ⟨rfl, rfl, rfl⟩ := hcs
    exact ⟨[], Nat.le_refl _, Nat.zero_le _, rfl, .inl rfl, fun x hx => by cases hx⟩
  · simp [Value.cells] at hcs
    obtain ⟨rfl, rfl, rfl⟩ := hcs
    by_cases h0 : n = 0
    · exact ⟨[], hl, hm, h0.symm, .inl rfl, fun x hx => by cases hx⟩
    · have hall : ∀ i : Nat, ∃ t : ByteArray, (i < n → ∀ j u, (ES.cs t)[j]? = some u → w.cell? ((x.add (i * 1)).add j) = some u) ∧ SzOk t := by
        intro i
        by_cases hi : i < n
        · obtain ⟨cs', hc, ht⟩ := hx i (by rw [hmm]; split <;> omega)
          rw [od_c9] at hc
          obtain ⟨t, h3, h4⟩ := str_cell hc ht (fun q hq => hw q (by have hd : d = _ := congrArg Prod.fst hxe; rw [hd]; exact w_slice Tryz.underlying23 (List.mem_map.2 ⟨i, by simpa using hi, rfl⟩) hq))
          exact ⟨t, fun _ => h3, h4⟩
        · exact ⟨emptyS, fun h => absurd h hi, by decide⟩
      obtain ⟨f, hf''⟩ := Classical.axiomOfChoice hall
      have hf' := fun i => (hf'' i).1
      obtain ⟨b, off, spot⟩ := x
      have z := hf' 0 (by omega) 0 _ rfl
      have hs : spot = none := by simpa [Addr.add] using World.cell?_spot z
      subst hs
      have hb : b < w.heap.size := by simpa [Addr.add] using World.block_lt_of_cell? w _ z
      refine ⟨(List.range n).map f, hl, hm, by simp, .inr ⟨b, off, rfl, hb, fun j u hj => ?_⟩, fun y hy => ?_⟩
      · obtain ⟨k, i, y, hk, rfl, hu⟩ := RE.all_at ES hj
        rw [List.getElem?_map] at hk
        have hkn : k < n := by
          cases hr : (List.range n)[k]? with
          | none => rw [hr] at hk; cases hk
          | some q => have := (List.getElem?_eq_some_iff.1 hr).1; simpa using this
        rw [List.getElem?_range hkn] at hk
        simp at hk
        subst hk
        have q := hf' k hkn i u hu
        have e0 : ((⟨b, off, none⟩ : Addr).add (k * 1)).add i = ⟨b, off + (k * ES.k + i), none⟩ := by
          have : ES.k = 1 := rfl
          rw [this]
          by_cases y1 : k = 0 <;> by_cases y2 : i = 0 <;> simp [Addr.add, y1, y2] <;> (try omega) <;> (try (split <;> omega)) <;> (try (split <;> simp <;> omega))
        rw [e0] at q
        exact q
      · obtain ⟨k, _, rfl⟩ := List.mem_map.1 hy
        exact (hf'' k).2

theorem slice_cell {H : Type} {enc : TypeId × Value → H} {w : World} {base : Nat} {spare : Nat → Bool} {held : Bool} {fuel : Nat} {t e : TypeId} {c : Value} {y : DataW H × List MemPlace} (hu : Tryz.prog.underlying t = some (.slice e))
    (h : DataW.trod enc Tryz.prog w base spare held fuel t [c] = some y) : ∃ a n k, c = .slice a n k ∧ DataW.Trod enc Tryz.prog w base spare held t (.slice a n k) y.1 y.2 := by
  have hv : ∀ a n k, c = .slice a n k → DataW.Trod enc Tryz.prog w base spare held t (.slice a n k) y.1 y.2 := fun a n k e => ⟨fuel, by subst e; exact h⟩
  rcases Go.Deep.open_slice hu h with ⟨hcs, _⟩ | ⟨x, l, c', m, n', D, Pl, hcs, _⟩
  · simp at hcs; exact ⟨_, _, _, hcs, hv _ _ _ hcs⟩
  · simp at hcs; exact ⟨_, _, _, hcs, hv _ _ _ hcs⟩
theorem nd_ints24 {H : Type} {enc : TypeId × Value → H} {w : World} {base : Nat} {spare : Nat → Bool} {held : Bool} {a : Option Addr} {n c : Nat} {d : DataW H} {p : List MemPlace} (h : DataW.Trod enc Tryz.prog w base spare held 24 (.slice a n c) d p) :
    ∃ l : List Int, l.length = n ∧ Rd w w.heap.size a (l.map (Value.int .i64)) ∧ n ≤ c ∧ c ≤ maxLen ∧ (a = none → n = 0) ∧ (∀ s ∈ l, (Lit.int .i64 s).wf = true) := by
  obtain ⟨fuel, hf⟩ := h
  rcases open_ints Tryz.underlying24 Tryz.underlying3 (by kernel_rfl) hf with ⟨hcs, _⟩ | ⟨x, len, cap, ss, hcs, _, hl, hm, hlen, _, hcell, hsz⟩
  · simp [Value.cells] at hcs
    obtain ⟨rfl, rfl, rfl⟩ := hcs
    exact ⟨[], rfl, .inl rfl, Nat.le_refl _, by simp [maxLen], fun _ => rfl, by simp⟩
  · simp [Value.cells] at hcs
    obtain ⟨rfl, rfl, rfl⟩ := hcs
    have hle : n ≤ ss.length := by rw [hlen]; split <;> omega
    refine ⟨ss.take n, by simp; omega, ?_, hl, hm, fun h => (by cases h), fun s hs => hsz s (List.mem_of_mem_take hs)⟩
    by_cases h0 : n = 0
    · subst h0; exact .inl (by simp)
    · obtain ⟨b, off, spot⟩ := x
      have c0 := hcell 0 (by omega)
      have hs : spot = none := by simpa [Addr.add] using World.cell?_spot c0
      subst hs
      have hb := World.block_lt_of_cell? w _ c0
      refine .inr ⟨b, off, rfl, by simpa [Addr.add] using hb, fun j u hj => ?_⟩
      rw [List.getElem?_map, List.getElem?_take] at hj
      split at hj
      · rename_i hjn
        have cj := hcell j (by omega)
        rw [List.getD_eq_getElem?_getD] at cj
        cases hg : ss[j]? with
        | none => rw [hg] at hj; simp at hj
        | some s =>
          rw [hg] at hj cj
          simp at hj cj
          subst hj
          by_cases z : j = 0
          · subst z; simpa [Addr.add] using cj
          · simpa [Addr.add, z] using cj
      · simp at hj
theorem ei_of {w : World} {A : Option Addr} {l : List Int} (h : Rd w w.heap.size A (l.map (Value.int .i64))) : EI.Rd w A l := by
  have e : ∀ q : List Int, EI.all q = q.map (Value.int .i64) := by
    intro q
    induction q with
    | nil => rfl
    | cons x xs ih => rw [RE.all_cons, ih]; rfl
  unfold RE.Rd
  rw [e]; exact h

/-- What is known of a node that came in. -/
structure NodeIn (W : World) (v : Value) (kd : Int) (P J M B : Option Addr) (n pc k kc m mc b bc : Nat) (ps : List ByteArray) (ks : List Int) (ms : List MG) : Prop where
  hv : v = .agg #[.int .u8 kd, .slice P n pc, .slice J k kc, .slice M m mc, .slice B b bc]
  hl : ps.length = n
  hP : ES.Rd W P ps
  hps : ∀ x ∈ ps, SzOk x
  hkl : ks.length = k
  hJ : EI.Rd W J ks
  hx : ∀ x ∈ ks, (Lit.int .i64 x).wf = true
  hm : ms.length = m
  hM : EG.Rd W M ms
  ho : OkA ms
  np : n ≤ pc ∧ pc ≤ maxLen
  nk : k ≤ kc ∧ kc ≤ maxLen
  nm : m ≤ mc ∧ mc ≤ maxLen
  hd : ∀ x ∈ ms, DlOk x
set_option maxRecDepth 100000 in
theorem node_open {H : Type} {enc : TypeId × Value → H} {W : World} {base : Nat} {spare : Nat → Bool} {held : Bool} {r : Reach} {b0 : Nat} {v : Value} {d : DataW H} {p : List MemPlace}
    (hv : Value.okWide Tryz.prog W r b0 28 v) (h : DataW.Trod enc Tryz.prog W base spare held 28 v d p) (hw : ∀ q ∈ d.weights Tryz.prog 28, q ≤ reachBytes) :
    ∃ kd P J M B n pc k kc m mc b bc ps ks ms, NodeIn W v kd P J M B n pc k kc m mc b bc ps ks ms := by
  obtain ⟨cs, rfl, hsz⟩ := okWide_struct Tryz.underlying28 hv
  rw [od_n28] at hsz
  obtain ⟨fuel, hf⟩ := h
  obtain ⟨xs, m, _, hxe, _, hxl, hel⟩ := DataW.trod_struct Tryz.underlying28 hf
  obtain ⟨ls⟩ := cs
  match ls, hsz, xs, hxl with
  | [c0, c1, c2, c3, c4], _, [y0, y1, y2, y3, y4], _ =>
    have h0 := hel 0 _ rfl
    have h1 := hel 1 _ rfl
    have h2 := hel 2 _ rfl
    have h3 := hel 3 _ rfl
    have h4 := hel 4 _ rfl
    simp [od_n22, od_n23, od_n24, od_n25, od_n26, Value.cells] at h0 h1 h2 h3 h4
    obtain ⟨p0, e0, _, _⟩ := DataW.trod_int Tryz.underlying22 h0
    simp at e0
    obtain ⟨P, n, pc, e1, t1⟩ := slice_cell Tryz.underlying23 h1
    obtain ⟨J, k, kc, e2, t2⟩ := slice_cell Tryz.underlying24 h2
    obtain ⟨M, m, mc, e3, t3⟩ := slice_cell Tryz.underlying25 h3
    obtain ⟨B, b, bc, e4, t4⟩ := slice_cell Tryz.underlying26 h4
    subst e0 e1 e2 e3 e4
    have hxe' : d = _ := congrArg Prod.fst hxe
    obtain ⟨ps, i1, i2, i3, i4, i5⟩ := strs_open t1 (fun q hq => hw q (by rw [hxe']; exact w_agg Tryz.underlying28 (j := 1) (d := y1.1) rfl rfl hq))
    obtain ⟨ks, k1, k2, k3, k4, _, k6⟩ := nd_ints24 t2
    obtain ⟨ms, m1, m2, m3, m4, m5, m6⟩ := msgs_open2 t3 (fun q hq => hw q (by rw [hxe']; exact w_agg Tryz.underlying28 (j := 3) (d := y3.1) rfl rfl hq))
    exact ⟨p0, P, J, M, B, n, pc, k, kc, m, mc, b, bc, ps, ks, ms, ⟨rfl, i3, i4, i5, k1, ei_of k2, k6, m3, m4, m5, ⟨i1, i2⟩, ⟨k3, k4⟩, ⟨m1, m2⟩, m6⟩⟩
end Go.Proofs.YtilnpeekajnlhaaGreat
namespace Go.Proofs.YtilnpeekajnlhaaGreat
open Go.RowKit Go.Shelf

theorem Chg.put {D : Nat → Prop} (w : World) {l : Nat} (o : Obj) (hl : D l) : Chg D w (w.putObj l o) :=
  ⟨rfl, rfl, rfl, by simp, fun g _ hn => World.putObj_heap_other (fun e => hn (by rw [e]; exact hl))⟩
theorem Chg.drew (D : Nat → Prop) (w : World) : Chg D w w.drew := ⟨rfl, rfl, rfl, Nat.le_refl _, fun _ _ _ => rfl⟩
/-- The blocks of D lie in w. -/
def In (D : Nat → Prop) (w : World) : Prop := ∀ g, D g → g < w.heap.size
/-- D' is of D and of what came later. -/
def Gr (D D' : Nat → Prop) (w w' : World) : Prop := ∀ g, D' g → D g ∨ (w.heap.size ≤ g ∧ g < w'.heap.size)
theorem Gr.refl (D : Nat → Prop) (w w' : World) : Gr D D w w' := fun _ h => .inl h
theorem Gr.trans {D E F : Nat → Prop} {a b c : World} (h : Gr D E a b) (k : Gr E F b c) (h1 : a.heap.size ≤ b.heap.size) (h2 : b.heap.size ≤ c.heap.size) : Gr D F a c := by
  intro g hg
  rcases k g hg with x | x
  · rcases h g x with y | y
    · exact .inl y
    · exact .inr ⟨y.1, by omega⟩
  · exact .inr ⟨by omega, x.2⟩
theorem In.gr {D E : Nat → Prop} {a b : World} (h : In D a) (k : Gr D E a b) (hs : a.heap.size ≤ b.heap.size) : In E b := by
  intro g hg
  rcases k g hg with x | x
  · have := h g x; omega
  · exact x.2
theorem In.more {D : Nat → Prop} {a b : World} (h : In D a) (hs : a.heap.size ≤ b.heap.size) : In D b := fun g hg => Nat.lt_of_lt_of_le (h g hg) hs
/-- What speaks of the blocks of D, and of those ahead of B, alone. -/
def LocB (B : Nat) (J : Nat → (Nat → Prop) → World → Prop) : Prop := ∀ s D W W', J s D W → Chg (fun g => ¬ D g ∧ B ≤ g) W W' → J s D W'
theorem LocB.more {B B' : Nat} {J : Nat → (Nat → Prop) → World → Prop} (h : LocB B J) (hB : B ≤ B') : LocB B' J := fun s D W W' hs hc => h s D W W' hs (hc.more (fun g hg => .inl ⟨hg.1, by omega⟩))
theorem LocB.put {B : Nat} {J : Nat → (Nat → Prop) → World → Prop} (h : LocB B J) {s : Nat} {D : Nat → Prop} {W : World} (hs : J s D W) {l : Nat} (hl : ¬ D l) (hB : B ≤ l) (o : Obj) : J s D (W.putObj l o) := h s D W _ hs (Chg.put W o ⟨hl, hB⟩)
theorem LocB.set {B : Nat} {J : Nat → (Nat → Prop) → World → Prop} (h : LocB B J) {s : Nat} {D : Nat → Prop} {W : World} (hs : J s D W) {l o : Nat} (hl : ¬ D l) (hB : B ≤ l) (v : Value) : J s D (W.setCell ⟨l, o, none⟩ v) := h s D W _ hs (Chg.set W v ⟨hl, hB⟩)
theorem LocB.bel {B : Nat} {J : Nat → (Nat → Prop) → World → Prop} (h : LocB B J) {s : Nat} {D : Nat → Prop} {W W' : World} (hs : J s D W) (hb : Below W.heap.size W W') : J s D W' := h s D W _ hs (Chg.of_below hb)

/-- How a call of what is told each thing ends. -/
def TellPost (J Jx : Nat → (Nat → Prop) → World → Prop) (k : Nat) (D : Nat → Prop) (W : World) (e : Ending) (W' : World) : Prop :=
  ∃ D', Gr D D' W W' ∧ Chg D W W' ∧ ((e = .returned (.bool true) ∧ J (k + 1) D' W') ∨ (e = .returned (.bool false) ∧ Jx (k + 1) D' W'))
/-- How an iterator ends. -/
def SeqPost (n : Nat) (J Jx : Nat → (Nat → Prop) → World → Prop) (D : Nat → Prop) (W : World) (W' : World) : Prop :=
  ∃ D', Gr D D' W W' ∧ Chg D W W' ∧ (J n D' W' ∨ ∃ k, k ≤ n ∧ Jx k D' W')
/-- What an iterator over xs promises to every loop over it. -/
def SeqF {α : Type} (P : Program) (g : Nat) (lb : Array Value) (encs : α → Array Value) (xs : List α) (w0 : World) : Prop :=
  ∀ (l : Nat) (J Jx : Nat → (Nat → Prop) → World → Prop) (W : World) (D : Nat → Prop), Below w0.heap.size w0 W → (∀ g, D g → w0.heap.size ≤ g) → In D W → LocB W.heap.size J → LocB W.heap.size Jx →
    (∀ m k x D W, xs[k]? = some x → J k D W → In D W → YieldAt Fence.wide m P l (encs x) W (TellPost J Jx k D W)) → J 0 D W →
    Calls P g (#[.func (.yield l) #[] #[]] ++ lb) W fun e W' => (∃ v, e = .returned v) ∧ SeqPost xs.length J Jx D W W'
theorem SeqF.later {α : Type} {P : Program} {g : Nat} {lb : Array Value} {encs : α → Array Value} {xs : List α} {w0 w1 : World} (h : SeqF P g lb encs xs w0) (hb : Below w0.heap.size w0 w1) : SeqF P g lb encs xs w1 :=
  fun l J Jx W D h1 h2 h3 h4 h5 h6 h7 => h l J Jx W D (hb.trans (h1.mono hb.size)) (fun g hg => Nat.le_trans hb.size (h2 g hg)) h3 h4 h5 h6 h7

/-- How the body of a round may be left. -/
def postF (I : Nat → (Nat → Prop) → World → Prop) (Ix : Code → Nat → (Nat → Prop) → World → Prop) (k : Nat) (D : Nat → Prop) (W : World) : Exit → Act → World → Prop
  | .normal, _, W' => ∃ D', Gr D D' W W' ∧ Chg D W W' ∧ I (k + 1) D' W'
  | .ret, _, W' => ∃ D', Gr D D' W W' ∧ Chg D W W' ∧ Ix .ret (k + 1) D' W'
  | .exit id, _, W' => ∃ D', Gr D D' W W' ∧ Chg D W W' ∧ Ix (.exit id) (k + 1) D' W'
  | _, _, _ => False

end Go.Proofs.YtilnpeekajnlhaaGreat
