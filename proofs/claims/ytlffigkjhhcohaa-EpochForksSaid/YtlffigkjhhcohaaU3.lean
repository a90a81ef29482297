/- The law EpochForks: what a nil book answers. -/
import Derived.Test.YtlffigkjhhcohaaU1
import Derived.Test.YtlffigkjhhcohaaU2
import Derived.Test.YtlffigkjhhcohaaS9
namespace Go.Proofs.Ytlffigkjhhcohaa
set_option linter.unusedSimpArgs false
open Go.RowKit Go.Maps
set_option linter.unusedVariables false

section
variable (w : World)
theorem nil_may (who : Int) (f : Bool) : Calls Try.prog 29 #[.pointer none, .int .i64 who, .bool f] w fun e w' => e = .returned (.int .i64 1) ∧ Below w.heap.size w w' := by
  go_enter Try.func29, Try.ntmps29
  go_wp2
  all_goals
    go_ret
    exact ⟨rfl, by first | exact Below.refl _ _ | exact bel_drewN (Below.refl _ _) _⟩
theorem nil_enter (who : Int) : Calls Try.prog 12 #[.pointer none, .int .i64 who] w fun e w' => e = .returned (.int .i64 1) ∧ Below w.heap.size w w' := by
  go_enter Try.func12, Try.ntmps12
  go_wp2_with (go_at_call 29; ((with_reducible refine (nil_may _ who false).mono ?_); rintro e w1 ⟨rfl, hb⟩))
  go_ret
  exact ⟨rfl, hb⟩
theorem nil_leave (who : Int) : Calls Try.prog 20 #[.pointer none, .int .i64 who] w fun e w' => e = .returned (.int .i64 1) ∧ Below w.heap.size w w' := by
  go_enter Try.func20, Try.ntmps20
  go_wp2_with (go_at_call 29; ((with_reducible refine (nil_may _ who true).mono ?_); rintro e w1 ⟨rfl, hb⟩))
  go_ret
  exact ⟨rfl, hb⟩
theorem nil_retire (x : Int) : Calls Try.prog 14 #[.pointer none, .int .i64 x] w fun e w' => e = .returned (.int .i64 1) ∧ Below w.heap.size w w' := by
  go_enter Try.func14, Try.ntmps14
  go_wp2
  go_ret
  exact ⟨rfl, Below.refl _ _⟩
theorem nil_ready : Calls Try.prog 16 #[.pointer none] w fun e w' => e = .returned (.slice none 0 0) ∧ Below w.heap.size w w' := by
  go_enter Try.func16, Try.ntmps16
  go_wp2
  go_ret
  exact ⟨rfl, Below.refl _ _⟩
theorem nil_in (x : Int) : Calls Try.prog 19 #[.pointer none, .int .i64 x] w fun e w' => e = .returned (.bool false) ∧ Below w.heap.size w w' := by
  go_enter Try.func19, Try.ntmps19
  go_wp2
  go_ret
  exact ⟨rfl, Below.refl _ _⟩
theorem nil_waits : Calls Try.prog 21 #[.pointer none] w fun e w' => e = .returned (.slice none 0 0) ∧ Below w.heap.size w w' := by
  go_enter Try.func21, Try.ntmps21
  go_wp2
  go_ret
  exact ⟨rfl, Below.refl _ _⟩
theorem nil_least : Calls Try.prog 23 #[.pointer none] w fun e w' => e = .returned (.int .i64 0) ∧ Below w.heap.size w w' := by
  go_enter Try.func23, Try.ntmps23
  go_wp2
  go_ret
  exact ⟨rfl, Below.refl _ _⟩
theorem nil_now : Calls Try.prog 24 #[.pointer none] w fun e w' => e = .returned (.int .i64 0) ∧ Below w.heap.size w w' := by
  go_enter Try.func24, Try.ntmps24
  go_wp2
  go_ret
  exact ⟨rfl, Below.refl _ _⟩
theorem nil_fork : Calls Try.prog 25 #[.pointer none] w fun e w' => e = .returned (.pointer none) ∧ Below w.heap.size w w' := by
  go_enter Try.func25, Try.ntmps25
  go_wp2
  go_ret
  exact ⟨rfl, Below.refl _ _⟩
end
def KR (gy : Nat) (A : Option Addr) (k x : Nat) : Prop := x = gy ∨ fpr A k = some x
theorem KR.to {w w' : World} {gy : Nat} {A : Option Addr} {k : Nat} {l : List Int} (h : Row w' w.heap.size A l k) : ∀ g, KR gy A k g → g = gy ∨ (w.heap.size ≤ g ∧ g < w'.heap.size) := by
  rintro g (e | e)
  · exact .inl e
  · exact .inr (h.fp_lt e)
/-- A fork, and the document's book beside it. -/
theorem q_fork {c lo N : Nat} {K : Nat → Prop} {b b' : RB} {w : World} {cs : Array Value} (h : ST c lo N K b b' w cs) (hc : c ≤ 900) (hlo : lo ≤ w.heap.size) : Calls Try.prog 25 #[.pointer (some ⟨N, 0, none⟩)] w fun e w' => ∃ N', e = .returned (.pointer (some ⟨N', 0, none⟩)) ∧ ST c w.heap.size N' K b b' w' cs ∧ Below w.heap.size w w' := by
  obtain ⟨M, A1, A2, k1, k2, m, S, h1, h2, h3, h4, hK⟩ := h
  refine (pfork_any ⟨by have := h3.wl; omega, by have := h3.wl; have := h3.al; omega⟩ h1).mono ?_
  rintro e w' ⟨N', M', A1', A2', k1', k2', rfl, h5, h6⟩
  refine ⟨N', rfl, ⟨M', A1', A2', k1', k2', m, S, h5, ?_, h3, ⟨.inl rfl, .inl rfl⟩, fun g hg => ⟨Nat.lt_of_lt_of_le (hK g hg).1 h6.size, fun hf => by have := h5.low g hf; have := (hK g hg).1; omega⟩⟩, h6⟩
  refine h2.chg (.of_below h6) ?_
  rintro g (e | e)
  · exact .inr (h5.low g e)
  · exact .inl (.inr e)
set_option maxRecDepth 4000 in
set_option maxHeartbeats 4000000 in
theorem forks_walk (A : Option Addr) (n cap : Nat) (d0 d1 d2 : Nat → Int) (A' : Option Addr) (n' cap' : Nat) (e0 e1 e2 : Nat → Int) (w : World) (hD : Deeds w A n d0 d1 d2) (hn : n ≤ maxLen) (hE : Deeds w A' n' e0 e1 e2) (hn' : n' ≤ maxLen) :
    Calls Try.prog 6 #[.slice A n cap, .slice A' n' cap'] w fun e w' => e = .returned (.bool true) ∧ Below w.heap.size w w' := by
  have hal := run_zb
  have PL := Lib.hid (played_any A n cap d0 d1 d2 w hD hn)
  have HE := Lib.hid hE
  clear hD hE
  go_enter Try.func6, Try.ntmps6
  go_wp2_with (first
    | (go_at_call 11; ((with_reducible refine PL.out.mono ?_); rintro e w1 ⟨N, cs, rfl, h1, b1⟩; have H1 := Lib.hid h1; have B1 := Lib.hid b1; have Z1 := Lib.hid (heap_alloc_new w1 (.cells zb 32)); clear h1 b1))
    | (refine wpList_store_row rfl 32 _ _ rfl w1.heap.size cs rfl rfl 32 zb Z1.out (by rw [H1.out.size]; exact info32) (by rw [H1.out.size]; exact zb_size) H1.out.one ?_)
    | fail)
  change Code.wp _ _ _ _ (W2 w1 cs)
  obtain ⟨b0, hb0⟩ : ∃ b, b = playR d0 d1 d2 (newB 4) (min n 60) := ⟨_, rfl⟩
  rw [← hb0] at H1
  have HB : Hid (Below w.heap.size w (W2 w1 cs)) := Lib.hid (B1.out.trans ((W2.bel w1 cs).mono B1.out.size))
  have H2 := Lib.hid (H1.out.later (W2.bel w1 cs))
  have Y2 := Lib.hid (W2.x w1 cs)
  have ZS := Lib.hid H1.out.size
  have ZO := Lib.hid H1.out.one
  have NB : Hid (w1.heap.size < (W2 w1 cs).heap.size) := Lib.hid (by rw [W2.size]; omega)
  have NW : Hid (w.heap.size < (W2 w1 cs).heap.size) := Lib.hid (by have := B1.out.size; rw [W2.size]; omega)
  clear B1 Z1 H1 hb0 PL
  generalize W2 w1 cs = W at *
  have ND : Hid (w.heap.size ≤ W.drew.heap.size) := Lib.hid (Nat.le_of_lt NW.out)
  have NA : Hid (w.heap.size ≤ (W.alloc (.cells zb 32)).drew.heap.size) := Lib.hid (by have := NW.out; simp; omega)
  have BA : Hid (Below W.heap.size W ((W.alloc (.cells zb 32)).drew)) := Lib.hid (by go_grown)
  have HA : Hid (ST 60 w.heap.size N (fun g => g = W.heap.size) b0 b0 ((W.alloc (.cells zb 32)).drew) cs) := Lib.hid (H2.out.wide BA.out _ (fun g hg => .inr ⟨by omega, by simp; omega⟩))
  have ZA : Hid (((W.alloc (.cells zb 32)).drew).heap[W.heap.size]? = some (.cells zb 32 (0, 0))) := Lib.hid (heap_alloc_new W _)
  refine wp_region_held_drew (S := (fun V => V.heap[w1.heap.size]? = some (.cells cs 32 (0, 0)))) (by kernel_rfl) ?_ (fun hHeld => ?_)
  · exact Y2.out
  have HHeld := Lib.hid hHeld; clear hHeld
  refine wpAnyH_take (i := 0) (oi := { dst := some 24, op := Op.move (Operand.tmp 5), type := 23, pos := "law.go:144", after := #[], guard := none }) (v := ?_) rfl (by kernel_rfl) (by kernel_rfl) (by kernel_rfl) (fun _ _ _ h => h) (Or.inl ⟨by rfl, ?_⟩) HHeld.out ?_
  rotate_left
  · intro w hSw; clear hSw; go_simp; try with_reducible rfl
  try simp only [Act.put, List.setIfInBounds_toArray, List.set_cons_zero, List.set_cons_succ]
  refine wpAnyH_take (i := 2) (oi := { dst := some 26, op := Op.load 32 (Operand.tmp 6), type := 32, pos := "law.go:144", after := #[{ on := 4, ground := Ground.gcOnly Departure.lateStores }], guard := none }) (v := Value.agg cs) rfl (by kernel_rfl) (by kernel_rfl) (by kernel_rfl) (fun _ _ _ h => h) (Or.inl ⟨by rfl, fun V hV => ex_load_row (.tmp 6) rfl w1.heap.size rfl cs hV ZS.out⟩) HHeld.out ?_
  try simp only [Act.put, List.setIfInBounds_toArray, List.set_cons_zero, List.set_cons_succ]
  refine wpAnyH_ready (rs := [1, 3]) (by kernel_rfl) (by simp) ?_
  refine AllReadyH.cons (o := { dst := some 25, op := Op.call { callee := Callee.value (Operand.func 25), args := #[Operand.tmp 24], argTypes := #[23] }, type := 23, pos := "law.go:144", after := #[{ on := 0, ground := Ground.data }], guard := none }) rfl (fun K hK => ?_) (AllReadyH.cons (o := { dst := some 9, op := Op.alloc 32, type := 0, pos := "law.go:144", after := #[], guard := none }) rfl (fun K hK => ?_) AllReadyH.nil)
  go_simp
  (go_at_call 25; ((with_reducible refine (q_fork (H2.out.later (drew_bel W)) (by omega) ND.out).mono ?_); rintro e w2 ⟨N', rfl, h3, b3⟩; have H3 := Lib.hid h3; have B3 : Hid (Below W.heap.size W w2) := Lib.hid ((drew_bel W).trans b3); clear h3 b3))
  refine hK.out _ _ ?_ (fun hHeld => ?_)
  · exact blk_bel B3.out Y2.out
  clear HHeld; have HHeld := Lib.hid hHeld; clear hHeld
  clear hK K
  try simp only [Act.put, List.setIfInBounds_toArray, List.set_cons_zero, List.set_cons_succ]
  refine wpAnyH_ready (rs := [3]) (by kernel_rfl) (by simp) ?_
  refine AllReadyH.cons (o := { dst := some 9, op := Op.alloc 32, type := 0, pos := "law.go:144", after := #[], guard := none }) rfl (fun K hK => ?_) AllReadyH.nil
  go_simp
  refine hK.out _ _ ?_ (fun hHeld => ?_)
  · exact blk_bel (B3.out.trans ((al_below w2 (.cells zb 32)).mono B3.out.size)) Y2.out
  clear HHeld; have HHeld := Lib.hid hHeld; clear hHeld
  clear hK K
  try simp only [Act.put, List.setIfInBounds_toArray, List.set_cons_zero, List.set_cons_succ]
  refine wpAnyH_take (i := 4) (oi := { dst := some 8, op := Op.assign (Operand.tmp 25), type := 23, pos := "law.go:144", after := #[{ on := 1, ground := Ground.data }, { on := 1, ground := Ground.chain }, { on := 0, ground := Ground.phase }, { on := 1, ground := Ground.phase }, { on := 2, ground := Ground.textOnly Departure.lateStores }, { on := 3, ground := Ground.phase }], guard := none }) (v := ?_) rfl (by kernel_rfl) (by kernel_rfl) (by kernel_rfl) (fun _ _ _ h => h) (Or.inl ⟨by rfl, ?_⟩) HHeld.out ?_
  rotate_left
  · intro w hSw; clear hSw; go_simp; try with_reducible rfl
  try simp only [Act.put, List.setIfInBounds_toArray, List.set_cons_zero, List.set_cons_succ]
  refine wpAnyH_ready (rs := [5]) (by kernel_rfl) (by simp) ?_
  refine AllReadyH.cons (o := { dst := none, op := Op.store 32 (Operand.tmp 9) (Operand.tmp 26), type := 0, pos := "law.go:144", after := #[{ on := 3, ground := Ground.data }, { on := 2, ground := Ground.data }, { on := 4, ground := Ground.chain }, { on := 0, ground := Ground.phase }, { on := 1, ground := Ground.phase }, { on := 2, ground := Ground.phase }, { on := 3, ground := Ground.phase }, { on := 4, ground := Ground.phase }], guard := none }) rfl (fun K hK => ?_) AllReadyH.nil
  rw [if_pos (by rfl)]
  refine wp_store_row 32 (.tmp 9) (.tmp 26) rfl w2.heap.size cs rfl rfl 32 zb (heap_alloc_new w2 _) (by rw [ZS.out]; exact info32) (by rw [ZS.out]; exact zb_size) ZO.out ?_
  refine hK.out _ _ ?_ (fun hHeld => ?_)
  · exact (setRow_other _ _ _ _ (by have h1 := B3.out.size; have h2 := NB.out; omega)).trans (blk_bel (B3.out.trans ((al_below w2 (.cells zb 32)).mono B3.out.size)) Y2.out)
  clear HHeld; have HHeld := Lib.hid hHeld; clear hHeld
  clear hK K
  try simp only [Act.put, List.setIfInBounds_toArray, List.set_cons_zero, List.set_cons_succ]
  refine wpAnyH_done (by kernel_rfl) ?_ _
  have H5 : Hid (ST 60 W.heap.size N' (fun g => g = w2.heap.size) b0 b0 (W2 w2 cs) cs) := Lib.hid (H3.out.wide (W2.bel w2 cs) _ (fun g hg => .inr ⟨by omega, by rw [W2.size]; omega⟩))
  have Y5 := Lib.hid (W2.x w2 cs)
  have B5 : Hid (Below W.heap.size W (W2 w2 cs)) := Lib.hid (B3.out.trans ((W2.bel w2 cs).mono B3.out.size))
  have G5 : Hid (W.heap.size ≤ w2.heap.size) := Lib.hid B3.out.size
  change Exit.then _ _ _ _ (W2 w2 cs)
  generalize W2 w2 cs = V at *
  obtain ⟨gy, hgy⟩ : ∃ g, g = w2.heap.size := ⟨_, rfl⟩
  rw [← hgy] at H5 Y5 G5 ⊢
  clear hgy H3 B3
  rotate_left
  go_simp
  refine hK.out _ _ ?_ (fun hHeld => ?_)
  · exact blk_bel BA.out Y2.out
  clear HHeld; have HHeld := Lib.hid hHeld; clear hHeld
  clear hK K
  try simp only [Act.put, List.setIfInBounds_toArray, List.set_cons_zero, List.set_cons_succ]
  refine wpAnyH_ready (rs := [1]) (by kernel_rfl) (by simp) ?_
  refine AllReadyH.cons (o := { dst := some 25, op := Op.call { callee := Callee.value (Operand.func 25), args := #[Operand.tmp 24], argTypes := #[23] }, type := 23, pos := "law.go:144", after := #[{ on := 0, ground := Ground.data }], guard := none }) rfl (fun K hK => ?_) AllReadyH.nil
  go_simp
  (go_at_call 25; ((with_reducible refine (q_fork HA.out (by omega) NA.out).mono ?_); rintro e w2 ⟨N', rfl, h3, b3⟩; have H3 := Lib.hid h3; have B3 : Hid (Below W.heap.size W w2) := Lib.hid ((BA.out).trans (b3.mono BA.out.size)); have Z3 := Lib.hid (blk_bel b3 ZA.out); clear h3 b3))
  refine hK.out _ _ ?_ (fun hHeld => ?_)
  · exact blk_bel B3.out Y2.out
  clear HHeld; have HHeld := Lib.hid hHeld; clear hHeld
  clear hK K
  try simp only [Act.put, List.setIfInBounds_toArray, List.set_cons_zero, List.set_cons_succ]
  refine wpAnyH_take (i := 4) (oi := { dst := some 8, op := Op.assign (Operand.tmp 25), type := 23, pos := "law.go:144", after := #[{ on := 1, ground := Ground.data }, { on := 1, ground := Ground.chain }, { on := 0, ground := Ground.phase }, { on := 1, ground := Ground.phase }, { on := 2, ground := Ground.textOnly Departure.lateStores }, { on := 3, ground := Ground.phase }], guard := none }) (v := ?_) rfl (by kernel_rfl) (by kernel_rfl) (by kernel_rfl) (fun _ _ _ h => h) (Or.inl ⟨by rfl, ?_⟩) HHeld.out ?_
  rotate_left
  · intro w hSw; clear hSw; go_simp; try with_reducible rfl
  try simp only [Act.put, List.setIfInBounds_toArray, List.set_cons_zero, List.set_cons_succ]
  refine wpAnyH_ready (rs := [5]) (by kernel_rfl) (by simp) ?_
  refine AllReadyH.cons (o := { dst := none, op := Op.store 32 (Operand.tmp 9) (Operand.tmp 26), type := 0, pos := "law.go:144", after := #[{ on := 3, ground := Ground.data }, { on := 2, ground := Ground.data }, { on := 4, ground := Ground.chain }, { on := 0, ground := Ground.phase }, { on := 1, ground := Ground.phase }, { on := 2, ground := Ground.phase }, { on := 3, ground := Ground.phase }, { on := 4, ground := Ground.phase }], guard := none }) rfl (fun K hK => ?_) AllReadyH.nil
  rw [if_pos (by rfl)]
  refine wp_store_row 32 (.tmp 9) (.tmp 26) rfl W.heap.size cs rfl rfl 32 zb Z3.out (by rw [ZS.out]; exact info32) (by rw [ZS.out]; exact zb_size) ZO.out ?_
  refine hK.out _ _ ?_ (fun hHeld => ?_)
  · exact (setRow_other _ _ _ _ (by have h2 := NB.out; omega)).trans (blk_bel B3.out Y2.out)
  clear HHeld; have HHeld := Lib.hid hHeld; clear hHeld
  clear hK K
  try simp only [Act.put, List.setIfInBounds_toArray, List.set_cons_zero, List.set_cons_succ]
  refine wpAnyH_done (by kernel_rfl) ?_ _
  have H5 : Hid (ST 60 W.heap.size N' (fun g => g = W.heap.size) b0 b0 (w2.setRow W.heap.size cs) cs) := Lib.hid ((H3.out.apart (grown_row (N := W.heap.size) (cs := cs)) rfl).down (by simp))
  have Y5 : Hid ((w2.setRow W.heap.size cs).heap[W.heap.size]? = some (.cells cs 32 (0, 0))) := Lib.hid (setRow_heap _ _ _ _ _ _ Z3.out)
  have B5 : Hid (Below W.heap.size W (w2.setRow W.heap.size cs)) := Lib.hid (below_setRow B3.out (Nat.le_refl _) _)
  have G5 : Hid (W.heap.size ≤ W.heap.size) := Lib.hid (Nat.le_refl _)
  generalize w2.setRow W.heap.size cs = V at *
  obtain ⟨gy, hgy⟩ : ∃ g, g = W.heap.size := ⟨_, rfl⟩
  rw [← hgy] at H5 Y5 G5 ⊢
  have H5 := Lib.hid (H5.out.down (Nat.le_of_eq hgy.symm))
  have G5 : Hid (W.heap.size ≤ gy) := Lib.hid (Nat.le_of_eq hgy.symm)
  clear hgy H3 B3
  rotate_left
  all_goals
    have B5w : Hid (Below w.heap.size w V) := Lib.hid (HB.out.trans (B5.out.mono HB.out.size))
    clear HHeld
    have KB := Lib.hid (fun X (hb : Below W.heap.size W X) => (And.intro (H2.out.later hb) (blk_bel hb Y2.out)))
    clear H2 Y2
    go_wp2_with fail
    rename_i KK2 aa2
    go_loopw [10, 11, 12] (fun iv _ _ wr => ∃ (k : Nat) (cs : Array Value), k ≤ min n' 60 ∧ iv = .int .i64 k ∧ ST (60 + k) W.heap.size N' (fun g => g = gy) (playR e0 e1 e2 b0 k) (playR e0 e1 e2 b0 k) wr cs ∧ wr.heap[gy]? = some (.cells cs 32 (0, 0)) ∧ Below W.heap.size W wr) (fun i _ _ _ => 60 - (intOf i).toNat)
    case atStart => exact ⟨0, cs, by omega, rfl, H5.out, Y5.out, B5.out⟩
    case round =>
      obtain ⟨k, cs2, hk, rfl, hst, hy, hb⟩ := hrel
      have HST := Lib.hid hst
      have HY := Lib.hid hy
      have HBR := Lib.hid hb
      clear hst hy hb H5 Y5 B5
      by_cases h8 : k < n'
      · have hk1 : (k : Int) < (n' : Int) := by omega
        have hk0 : (0 : Int) ≤ (k : Int) := by omega
        by_cases h9 : k < 60
        · have hk2 : (k : Int) < 60 := by omega
          obtain ⟨b, off, rfl, hlt, ⟨c0, c1, c2⟩, _, w1f, w2f⟩ := (HE.out.low (HB.out.trans (HBR.out.mono HB.out.size))).at_ h8
          obtain ⟨x0, hx0⟩ : ∃ x, x = e0 k := ⟨_, rfl⟩
          obtain ⟨x1, hx1⟩ : ∃ x, x = e1 k := ⟨_, rfl⟩
          obtain ⟨x2, hx2⟩ : ∃ x, x = e2 k := ⟨_, rfl⟩
          rw [← hx0] at c0
          rw [← hx1] at c1 w1f
          rw [← hx2] at c2 w2f
          have HPL : Hid (playR e0 e1 e2 b0 (k + 1) = stepR (playR e0 e1 e2 b0 k) x0 x1 x2) := Lib.hid (by rw [hx0, hx1, hx2]; rfl)
          clear hx0 hx1 hx2
          have C0 := Lib.hid c0
          have C1 := Lib.hid c1
          have C2 := Lib.hid c2
          clear aa2
          have hbb : b < W.heap.size := by
            rcases HE.out with h | ⟨b', off', e, h, _⟩
            · omega
            · cases e; exact Nat.lt_of_lt_of_le h HB.out.size
          have HLT := Lib.hid hbb
          have ZS2 := Lib.hid HST.out.size
          have NR := Lib.hid (HST.out.kept gy rfl)
          have BL : Hid (Below wr.heap.size wr (wr.alloc (.cells zb 32)).drew) := Lib.hid (by go_grown)
          have CS := Lib.hid (step_any (HST.out.later (drew_bel wr)) (by omega) HBR.out.size (d := x0) w1f w2f)
          have CT := Lib.hid (step_any (HST.out.wide BL.out (fun g => g = gy ∨ g = wr.heap.size) (by rintro g (h | h); exact .inl h; exact .inr ⟨by omega, by simp; omega⟩)) (by omega) (Nat.le_trans HBR.out.size BL.out.size) (d := x0) w1f w2f)
          have ZL : Hid ((wr.alloc (.cells zb 32)).drew.heap[wr.heap.size]? = some (.cells zb 32 (0, 0))) := Lib.hid (heap_alloc_new wr _)
          clear c0 c1 c2 hlt w1f w2f hbb
          go_wp2_with fail
          refine wp_region_held_drew (S := (fun V => V.heap[gy]? = some (.cells cs2 32 (0, 0)) ∧ V.cell? ⟨b, off + k * 3, none⟩ = some (.int .i64 x0) ∧ V.cell? ⟨b, off + k * 3 + 1, none⟩ = some (.int .i64 x1) ∧ V.cell? ⟨b, off + k * 3 + 2, none⟩ = some (.int .i64 x2))) (by kernel_rfl) ?_ (fun hHeld => ?_)
          · exact ⟨HY.out, C0.out, C1.out, C2.out⟩
          have HHeld := Lib.hid hHeld; clear hHeld
          refine wpAnyH_take (i := 0) (oi := { dst := some 40, op := Op.move (Operand.tmp 8), type := 23, pos := "law.go:149", after := #[], guard := none }) (v := ?_) rfl (by kernel_rfl) (by kernel_rfl) (by kernel_rfl) (fun _ _ _ h => h) (Or.inl ⟨by rfl, ?_⟩) HHeld.out ?_
          rotate_left
          · intro w hSw; clear hSw; go_simp; try with_reducible rfl
          try simp only [Act.put, List.setIfInBounds_toArray, List.set_cons_zero, List.set_cons_succ]
          refine wpAnyH_take (i := 1) (oi := { dst := some 41, op := Op.load 32 (Operand.tmp 9), type := 32, pos := "law.go:149", after := #[], guard := none }) (v := Value.agg cs2) rfl (by kernel_rfl) (by kernel_rfl) (by kernel_rfl) (fun _ _ _ h => h) (Or.inl ⟨by rfl, fun V hV => ex_load_row (.tmp 9) rfl gy rfl cs2 hV.1 ZS2.out⟩) HHeld.out ?_
          try simp only [Act.put, List.setIfInBounds_toArray, List.set_cons_zero, List.set_cons_succ]
          refine wpAnyH_take (i := 2) (oi := { dst := some 42, op := Op.move (Operand.tmp 1), type := 22, pos := "law.go:149", after := #[], guard := none }) (v := ?_) rfl (by kernel_rfl) (by kernel_rfl) (by kernel_rfl) (fun _ _ _ h => h) (Or.inl ⟨by rfl, ?_⟩) HHeld.out ?_
          rotate_left
          · intro w hSw; clear hSw; go_simp; try with_reducible rfl
          try simp only [Act.put, List.setIfInBounds_toArray, List.set_cons_zero, List.set_cons_succ]
          refine wpAnyH_take (i := 3) (oi := { dst := some 43, op := Op.move (Operand.tmp 10), type := 3, pos := "law.go:149", after := #[], guard := none }) (v := ?_) rfl (by kernel_rfl) (by kernel_rfl) (by kernel_rfl) (fun _ _ _ h => h) (Or.inl ⟨by rfl, ?_⟩) HHeld.out ?_
          rotate_left
          · intro w hSw; clear hSw; go_simp; try with_reducible rfl
          try simp only [Act.put, List.setIfInBounds_toArray, List.set_cons_zero, List.set_cons_succ]
          refine wpAnyH_take (i := 4) (oi := { dst := some 44, op := Op.indexAddr 22 (Operand.tmp 42) (Operand.tmp 43), type := 0, pos := "law.go:149", after := #[{ on := 2, ground := Ground.data }, { on := 3, ground := Ground.data }], guard := none }) (v := ?_) rfl (by kernel_rfl) (by kernel_rfl) (by kernel_rfl) (fun _ _ _ h => h) (Or.inl ⟨by rfl, ?_⟩) HHeld.out ?_
          rotate_left
          · intro w hSw; clear hSw; go_simp; try with_reducible rfl
          try simp only [Act.put, List.setIfInBounds_toArray, List.set_cons_zero, List.set_cons_succ]
          refine wpAnyH_take (i := 5) (oi := { dst := some 45, op := Op.load 36 (Operand.tmp 44), type := 36, pos := "law.go:149", after := #[{ on := 4, ground := Ground.data }], guard := none }) (v := Value.agg #[.int .i64 x0, .int .i64 x1, .int .i64 x2]) rfl (by kernel_rfl) (by kernel_rfl) (by kernel_rfl) (fun _ _ _ h => h) (Or.inl ⟨by rfl, ?_⟩) HHeld.out ?_
          · intro V hV; have hc0 := hV.2.1; have hc1 := hV.2.2.1; have hc2 := hV.2.2.2; clear hV; go_simp
          try simp only [Act.put, List.setIfInBounds_toArray, List.set_cons_zero, List.set_cons_succ]
          refine wpAnyH_ready (rs := [6, 10]) (by kernel_rfl) (by simp) ?_
          refine AllReadyH.cons (o := { dst := some 46, op := Op.call { callee := Callee.value (Operand.func 9), args := #[Operand.tmp 40, Operand.tmp 41, Operand.tmp 45], argTypes := #[23, 32, 36] }, type := 33, pos := "law.go:149", after := #[{ on := 0, ground := Ground.data }, { on := 1, ground := Ground.data }, { on := 5, ground := Ground.data }], guard := none }) rfl (fun K hK => ?_) (AllReadyH.cons (o := { dst := some 11, op := Op.alloc 32, type := 0, pos := "law.go:149", after := #[], guard := none }) rfl (fun K hK => ?_) AllReadyH.nil)
          go_simp
          (go_at_call 9; ((with_reducible refine (CS.out).mono ?_); rintro e w3 ⟨cs3, rfl, h2, b2, k2⟩; have H6 := Lib.hid h2; have B6 : Hid (Below W.heap.size W w3) := Lib.hid ((HBR.out.trans ((drew_bel wr).mono HBR.out.size)).trans b2); have YB := Lib.hid ((k2 _ rfl).trans HY.out); have ZS3 := Lib.hid h2.size; have ZO3 := Lib.hid h2.one; have CC := Lib.hid (And.intro YB.out (And.intro ((bel_cell b2 HLT.out).trans (HHeld.out.2.1)) (And.intro ((bel_cell b2 HLT.out).trans (HHeld.out.2.2.1)) ((bel_cell b2 HLT.out).trans (HHeld.out.2.2.2))))); have N3 := Lib.hid (h2.kept gy rfl); clear h2 b2 k2))
          refine hK.out _ _ ?_ (fun hHeld => ?_)
          · exact CC.out
          clear HHeld; have HHeld := Lib.hid hHeld; clear hHeld
          clear hK K
          try simp only [Act.put, List.setIfInBounds_toArray, List.set_cons_zero, List.set_cons_succ]
          refine wpAnyH_take (i := 7) (oi := { dst := some 39, op := Op.move (Operand.tmp 46), type := 33, pos := "law.go:149", after := #[{ on := 6, ground := Ground.data }], guard := none }) (v := ?_) rfl (by kernel_rfl) (by kernel_rfl) (by kernel_rfl) (fun _ _ _ h => h) (Or.inl ⟨by rfl, ?_⟩) HHeld.out ?_
          rotate_left
          · intro w hSw; clear hSw; go_simp; try with_reducible rfl
          try simp only [Act.put, List.setIfInBounds_toArray, List.set_cons_zero, List.set_cons_succ]
          refine wpAnyH_take (i := 8) (oi := { dst := some 47, op := Op.extract (Operand.tmp 39) 0, type := 32, pos := "law.go:149", after := #[{ on := 7, ground := Ground.data }], guard := none }) (v := ?_) rfl (by kernel_rfl) (by kernel_rfl) (by kernel_rfl) (fun _ _ _ h => h) (Or.inl ⟨by rfl, ?_⟩) HHeld.out ?_
          rotate_left
          · intro w hSw; clear hSw; go_simp; try with_reducible rfl
          try simp only [Act.put, List.setIfInBounds_toArray, List.set_cons_zero, List.set_cons_succ]
          refine wpAnyH_take (i := 9) (oi := { dst := some 48, op := Op.extract (Operand.tmp 39) 1, type := 4, pos := "law.go:149", after := #[{ on := 7, ground := Ground.data }, { on := 11, ground := Ground.gcOnly Departure.lateStores }], guard := none }) (v := ?_) rfl (by kernel_rfl) (by kernel_rfl) (by kernel_rfl) (fun _ _ _ h => h) (Or.inl ⟨by rfl, ?_⟩) HHeld.out ?_
          rotate_left
          · intro w hSw; clear hSw; go_simp; try with_reducible rfl
          try simp only [Act.put, List.setIfInBounds_toArray, List.set_cons_zero, List.set_cons_succ]
          refine wpAnyH_ready (rs := [10]) (by kernel_rfl) (by simp) ?_
          refine AllReadyH.cons (o := { dst := some 11, op := Op.alloc 32, type := 0, pos := "law.go:149", after := #[], guard := none }) rfl (fun K hK => ?_) AllReadyH.nil
          go_simp
          refine hK.out _ _ ?_ (fun hHeld => ?_)
          · exact ⟨blk_bel (al_below w3 (.cells zb 32)) HHeld.out.1, bel_later (al_below w3 (.cells zb 32)) HHeld.out.2.1, bel_later (al_below w3 (.cells zb 32)) HHeld.out.2.2.1, bel_later (al_below w3 (.cells zb 32)) HHeld.out.2.2.2⟩
          clear HHeld; have HHeld := Lib.hid hHeld; clear hHeld
          clear hK K
          try simp only [Act.put, List.setIfInBounds_toArray, List.set_cons_zero, List.set_cons_succ]
          refine wpAnyH_ready (rs := [11]) (by kernel_rfl) (by simp) ?_
          refine AllReadyH.cons (o := { dst := none, op := Op.store 32 (Operand.tmp 11) (Operand.tmp 47), type := 0, pos := "law.go:149", after := #[{ on := 10, ground := Ground.data }, { on := 8, ground := Ground.data }, { on := 6, ground := Ground.chain }, { on := 0, ground := Ground.phase }, { on := 1, ground := Ground.phase }, { on := 2, ground := Ground.phase }, { on := 3, ground := Ground.phase }, { on := 4, ground := Ground.phase }, { on := 5, ground := Ground.phase }, { on := 6, ground := Ground.phase }, { on := 7, ground := Ground.phase }, { on := 8, ground := Ground.phase }, { on := 9, ground := Ground.textOnly Departure.lateStores }, { on := 10, ground := Ground.phase }], guard := none }) rfl (fun K hK => ?_) AllReadyH.nil
          rw [if_pos (by rfl)]
          refine wp_store_row 32 (.tmp 11) (.tmp 47) rfl w3.heap.size cs3 rfl rfl 32 zb (heap_alloc_new w3 _) (by rw [ZS3.out]; exact info32) (by rw [ZS3.out]; exact zb_size) ZO3.out ?_
          refine hK.out _ _ ?_ (fun hHeld => ?_)
          · exact ⟨(setRow_other _ _ _ _ (by have := N3.out; omega)).trans HHeld.out.1, (cell_setRow (by have h1 := HLT.out; have h2 := B6.out.size; omega)).trans HHeld.out.2.1, (cell_setRow (by have h1 := HLT.out; have h2 := B6.out.size; omega)).trans HHeld.out.2.2.1, (cell_setRow (by have h1 := HLT.out; have h2 := B6.out.size; omega)).trans HHeld.out.2.2.2⟩
          clear HHeld; have HHeld := Lib.hid hHeld; clear hHeld
          clear hK K
          try simp only [Act.put, List.setIfInBounds_toArray, List.set_cons_zero, List.set_cons_succ]
          refine wpAnyH_take (i := 12) (oi := { dst := some 12, op := Op.assign (Operand.tmp 48), type := 4, pos := "law.go:149", after := #[{ on := 9, ground := Ground.data }, { on := 11, ground := Ground.chain }, { on := 0, ground := Ground.phase }, { on := 1, ground := Ground.phase }, { on := 2, ground := Ground.phase }, { on := 3, ground := Ground.phase }, { on := 4, ground := Ground.phase }, { on := 5, ground := Ground.phase }, { on := 6, ground := Ground.phase }, { on := 7, ground := Ground.phase }, { on := 8, ground := Ground.phase }, { on := 9, ground := Ground.phase }, { on := 10, ground := Ground.phase }, { on := 11, ground := Ground.phase }], guard := none }) (v := ?_) rfl (by kernel_rfl) (by kernel_rfl) (by kernel_rfl) (fun _ _ _ h => h) (Or.inl ⟨by rfl, ?_⟩) HHeld.out ?_
          rotate_left
          · intro w hSw; clear hSw; go_simp; try with_reducible rfl
          try simp only [Act.put, List.setIfInBounds_toArray, List.set_cons_zero, List.set_cons_succ]
          refine wpAnyH_done (by kernel_rfl) ?_ _
          have H7 : Hid (ST (60 + k + 1) W.heap.size N' (fun g => g = gy) (stepR (playR e0 e1 e2 b0 k) x0 x1 x2) (stepR (playR e0 e1 e2 b0 k) x0 x1 x2) (W2 w3 cs3) cs3) := Lib.hid (H6.out.later (W2.bel w3 cs3))
          have Y7 : Hid ((W2 w3 cs3).heap[gy]? = some (.cells cs2 32 (0, 0))) := Lib.hid HHeld.out.1
          have X7 := Lib.hid (W2.x w3 cs3)
          have B7 : Hid (Below W.heap.size W (W2 w3 cs3)) := Lib.hid (B6.out.trans ((W2.bel w3 cs3).mono B6.out.size))
          have G7 : Hid (¬ gy = w3.heap.size) := Lib.hid (by have := N3.out; omega)
          change Exit.then _ _ _ _ (W2 w3 cs3)
          clear CC YB H6 B6 N3
          clear HHeld
          generalize W2 w3 cs3 = V2 at *
          obtain ⟨gz, hgz⟩ : ∃ g, g = w3.heap.size := ⟨_, rfl⟩
          rw [← hgz] at X7 G7 ⊢
          clear hgz
          rotate_left
          go_simp
          refine hK.out _ _ ?_ (fun hHeld => ?_)
          · exact ⟨blk_bel BL.out HY.out, bel_later BL.out C0.out, bel_later BL.out C1.out, bel_later BL.out C2.out⟩
          clear HHeld; have HHeld := Lib.hid hHeld; clear hHeld
          clear hK K
          try simp only [Act.put, List.setIfInBounds_toArray, List.set_cons_zero, List.set_cons_succ]
          refine wpAnyH_ready (rs := [6]) (by kernel_rfl) (by simp) ?_
          refine AllReadyH.cons (o := { dst := some 46, op := Op.call { callee := Callee.value (Operand.func 9), args := #[Operand.tmp 40, Operand.tmp 41, Operand.tmp 45], argTypes := #[23, 32, 36] }, type := 33, pos := "law.go:149", after := #[{ on := 0, ground := Ground.data }, { on := 1, ground := Ground.data }, { on := 5, ground := Ground.data }], guard := none }) rfl (fun K hK => ?_) AllReadyH.nil
          go_simp
          (go_at_call 9; ((with_reducible refine (CT.out).mono ?_); rintro e w3 ⟨cs3, rfl, h2, b2, k2⟩; have H6 := Lib.hid h2; have B6 : Hid (Below W.heap.size W w3) := Lib.hid ((HBR.out.trans (BL.out.mono HBR.out.size)).trans b2); have YB := Lib.hid ((k2 gy (.inl rfl)).trans HHeld.out.1); have ZB := Lib.hid ((k2 wr.heap.size (.inr rfl)).trans ZL.out); have ZS3 := Lib.hid h2.size; have ZO3 := Lib.hid h2.one; have CC := Lib.hid (And.intro YB.out (And.intro ((bel_cell b2 HLT.out).trans (HHeld.out.2.1)) (And.intro ((bel_cell b2 HLT.out).trans (HHeld.out.2.2.1)) ((bel_cell b2 HLT.out).trans (HHeld.out.2.2.2))))); clear h2 b2 k2))
          refine hK.out _ _ ?_ (fun hHeld => ?_)
          · exact CC.out
          clear HHeld; have HHeld := Lib.hid hHeld; clear hHeld
          clear hK K
          try simp only [Act.put, List.setIfInBounds_toArray, List.set_cons_zero, List.set_cons_succ]
          refine wpAnyH_take (i := 7) (oi := { dst := some 39, op := Op.move (Operand.tmp 46), type := 33, pos := "law.go:149", after := #[{ on := 6, ground := Ground.data }], guard := none }) (v := ?_) rfl (by kernel_rfl) (by kernel_rfl) (by kernel_rfl) (fun _ _ _ h => h) (Or.inl ⟨by rfl, ?_⟩) HHeld.out ?_
          rotate_left
          · intro w hSw; clear hSw; go_simp; try with_reducible rfl
          try simp only [Act.put, List.setIfInBounds_toArray, List.set_cons_zero, List.set_cons_succ]
          refine wpAnyH_take (i := 8) (oi := { dst := some 47, op := Op.extract (Operand.tmp 39) 0, type := 32, pos := "law.go:149", after := #[{ on := 7, ground := Ground.data }], guard := none }) (v := ?_) rfl (by kernel_rfl) (by kernel_rfl) (by kernel_rfl) (fun _ _ _ h => h) (Or.inl ⟨by rfl, ?_⟩) HHeld.out ?_
          rotate_left
          · intro w hSw; clear hSw; go_simp; try with_reducible rfl
          try simp only [Act.put, List.setIfInBounds_toArray, List.set_cons_zero, List.set_cons_succ]
          refine wpAnyH_take (i := 9) (oi := { dst := some 48, op := Op.extract (Operand.tmp 39) 1, type := 4, pos := "law.go:149", after := #[{ on := 7, ground := Ground.data }, { on := 11, ground := Ground.gcOnly Departure.lateStores }], guard := none }) (v := ?_) rfl (by kernel_rfl) (by kernel_rfl) (by kernel_rfl) (fun _ _ _ h => h) (Or.inl ⟨by rfl, ?_⟩) HHeld.out ?_
          rotate_left
          · intro w hSw; clear hSw; go_simp; try with_reducible rfl
          try simp only [Act.put, List.setIfInBounds_toArray, List.set_cons_zero, List.set_cons_succ]
          refine wpAnyH_ready (rs := [11]) (by kernel_rfl) (by simp) ?_
          refine AllReadyH.cons (o := { dst := none, op := Op.store 32 (Operand.tmp 11) (Operand.tmp 47), type := 0, pos := "law.go:149", after := #[{ on := 10, ground := Ground.data }, { on := 8, ground := Ground.data }, { on := 6, ground := Ground.chain }, { on := 0, ground := Ground.phase }, { on := 1, ground := Ground.phase }, { on := 2, ground := Ground.phase }, { on := 3, ground := Ground.phase }, { on := 4, ground := Ground.phase }, { on := 5, ground := Ground.phase }, { on := 6, ground := Ground.phase }, { on := 7, ground := Ground.phase }, { on := 8, ground := Ground.phase }, { on := 9, ground := Ground.textOnly Departure.lateStores }, { on := 10, ground := Ground.phase }], guard := none }) rfl (fun K hK => ?_) AllReadyH.nil
          rw [if_pos (by rfl)]
          refine wp_store_row 32 (.tmp 11) (.tmp 47) rfl wr.heap.size cs3 rfl rfl 32 zb ZB.out (by rw [ZS3.out]; exact info32) (by rw [ZS3.out]; exact zb_size) ZO3.out ?_
          refine hK.out _ _ ?_ (fun hHeld => ?_)
          · exact ⟨(setRow_other _ _ _ _ (by have := NR.out; omega)).trans HHeld.out.1, (cell_setRow (by have h1 := HLT.out; have h2 := HBR.out.size; omega)).trans HHeld.out.2.1, (cell_setRow (by have h1 := HLT.out; have h2 := HBR.out.size; omega)).trans HHeld.out.2.2.1, (cell_setRow (by have h1 := HLT.out; have h2 := HBR.out.size; omega)).trans HHeld.out.2.2.2⟩
          clear HHeld; have HHeld := Lib.hid hHeld; clear hHeld
          clear hK K
          try simp only [Act.put, List.setIfInBounds_toArray, List.set_cons_zero, List.set_cons_succ]
          refine wpAnyH_take (i := 12) (oi := { dst := some 12, op := Op.assign (Operand.tmp 48), type := 4, pos := "law.go:149", after := #[{ on := 9, ground := Ground.data }, { on := 11, ground := Ground.chain }, { on := 0, ground := Ground.phase }, { on := 1, ground := Ground.phase }, { on := 2, ground := Ground.phase }, { on := 3, ground := Ground.phase }, { on := 4, ground := Ground.phase }, { on := 5, ground := Ground.phase }, { on := 6, ground := Ground.phase }, { on := 7, ground := Ground.phase }, { on := 8, ground := Ground.phase }, { on := 9, ground := Ground.phase }, { on := 10, ground := Ground.phase }, { on := 11, ground := Ground.phase }], guard := none }) (v := ?_) rfl (by kernel_rfl) (by kernel_rfl) (by kernel_rfl) (fun _ _ _ h => h) (Or.inl ⟨by rfl, ?_⟩) HHeld.out ?_
          rotate_left
          · intro w hSw; clear hSw; go_simp; try with_reducible rfl
          try simp only [Act.put, List.setIfInBounds_toArray, List.set_cons_zero, List.set_cons_succ]
          refine wpAnyH_done (by kernel_rfl) ?_ _
          have H7 : Hid (ST (60 + k + 1) W.heap.size N' (fun g => g = gy) (stepR (playR e0 e1 e2 b0 k) x0 x1 x2) (stepR (playR e0 e1 e2 b0 k) x0 x1 x2) (w3.setRow wr.heap.size cs3) cs3) := Lib.hid ((H6.out.apart (grown_row (N := wr.heap.size) (cs := cs3)) (.inr rfl)).less (fun g h => .inl h))
          have Y7 : Hid ((w3.setRow wr.heap.size cs3).heap[gy]? = some (.cells cs2 32 (0, 0))) := Lib.hid HHeld.out.1
          have X7 : Hid ((w3.setRow wr.heap.size cs3).heap[wr.heap.size]? = some (.cells cs3 32 (0, 0))) := Lib.hid (setRow_heap _ _ _ _ _ _ ZB.out)
          have B7 : Hid (Below W.heap.size W (w3.setRow wr.heap.size cs3)) := Lib.hid (below_setRow B6.out HBR.out.size _)
          have G7 : Hid (¬ gy = wr.heap.size) := Lib.hid (by have := NR.out; omega)
          clear CC YB H6 B6
          clear HHeld
          generalize w3.setRow wr.heap.size cs3 = V2 at *
          obtain ⟨gz, hgz⟩ : ∃ g, g = wr.heap.size := ⟨_, rfl⟩
          rw [← hgz] at X7 G7 ⊢
          clear hgz
          rotate_left
          all_goals
            go_wp2_with (first
              | (refine wpList_load_row rfl 32 (.tmp 11) rfl gz rfl 32 cs3 (0, 0) _ X7.out Try.underlying32 rfl (by rw [ZS3.out]; exact info32) ?_)
              | (refine wpList_store_row rfl 32 (.tmp 9) _ rfl gy cs3 rfl rfl 32 cs2 Y7.out (by rw [ZS3.out]; exact info32) (by rw [ZS3.out]; exact ZS2.out) ZO3.out ?_)
              | fail)
            refine ⟨⟨k + 1, cs3, by omega, by simp, ?_, setRow_heap _ _ _ _ _ _ Y7.out, below_setRow B7.out G5.out _⟩, by simp [intOf]; omega⟩
            rw [HPL.out]
            exact H7.out.apart (grown_row (N := gy) (cs := cs3)) rfl
        · have hk2 : ¬ (k : Int) < 60 := by omega
          obtain ⟨bf, hbf⟩ : ∃ b, b = playR e0 e1 e2 b0 k := ⟨_, rfl⟩
          rw [← hbf] at HST
          have HSU := Lib.hid (HST.out.more (c' := 120) (by omega))
          have HWL := Lib.hid HSU.out.wlen
          have ZS2 := Lib.hid HSU.out.size
          have GYL := Lib.hid (HSU.out.kept gy rfl)
          have QW := Lib.hid (q_waits HSU.out (by omega))
          clear hbf
          go_wp2_with (first
            | (go_at_call 21; ((with_reducible refine QW.out.mono ?_); rintro e w5 ⟨A5, k5, rfl, r5, b5⟩; have R5 := Lib.hid r5; have H5 := Lib.hid (HSU.out.wide b5 (KR gy A5 k5) (KR.to r5)); have Y5 := Lib.hid (blk_bel b5 HY.out); have B5 : Hid (Below W.heap.size W w5) := Lib.hid (HBR.out.trans (b5.mono HBR.out.size)); clear r5 b5))
            | fail)
          go_loopw [14] (fun iv wr2 => ∃ (j : Nat) (l2 : List Int), j ≤ bf.wl.length ∧ iv = .int .i64 j ∧ l2.length = bf.wl.length ∧ Row wr2 wr.heap.size A5 l2 k5 ∧ ST 120 W.heap.size N' (KR gy A5 k5) bf bf wr2 cs2 ∧ wr2.heap[gy]? = some (.cells cs2 32 (0, 0)) ∧ Below W.heap.size W wr2) (fun i _ => bf.wl.length - (intOf i).toNat)
          case atStart => exact ⟨0, bf.wl, by omega, rfl, rfl, R5.out, H5.out, Y5.out, B5.out⟩
          case round =>
            obtain ⟨j, l2, hj, rfl, hl2, hr2, hst2, hy2, hb2⟩ := hrel
            have HR2 := Lib.hid hr2
            have HS2 := Lib.hid hst2
            have HY2 := Lib.hid hy2
            have HB2 := Lib.hid hb2
            have HL2 := Lib.hid hl2
            clear hr2 hst2 hy2 hb2 hl2 R5 H5 Y5 B5
            by_cases h10 : j < bf.wl.length
            · have hj1 : (j : Int) < (bf.wl.length : Int) := by omega
              have hj0 : (0 : Int) ≤ (j : Int) := by omega
              have hj2 : (j : Int) < 121 := by have := HWL.out; omega
              obtain ⟨g, rfl, hg, f1, f2, hset⟩ := HR2.out.place (j := j) (by have := HL2.out; omega)
              have HSET := Lib.hid hset
              have HG := Lib.hid hg
              have HGL := Lib.hid (HR2.out.fp_lt hg).1
              obtain ⟨y, hy⟩ : ∃ y, y = l2.getD j 0 := ⟨_, rfl⟩
              rw [← hy] at f1
              clear hset hg hy
              go_wp2_with fail
              refine ⟨⟨j + 1, _, by omega, by simp, ?_, HSET.out _, HS2.out.apart grown_set (.inr HG.out), (heap_setCell_other _ _ _ _ (by have := GYL.out; have := HGL.out; simp; omega)).trans HY2.out, HB2.out.setCell (by have := HBR.out.size; have := HGL.out; simp; omega) _⟩, by simp [intOf]; omega⟩
              rw [List.length_set]; exact HL2.out
            · have hj1 : ¬ (j : Int) < (bf.wl.length : Int) := by omega
              clear HR2
              go_wp2_with (first
                | (go_at_call 8; ((with_reducible refine (live_any _).mono ?_); rintro e w20 ⟨rfl, b20⟩; have B20 := Lib.hid (HB2.out.trans (b20.mono HB2.out.size)); have HF20 := Lib.hid (HS2.out.later b20); have YF20 := Lib.hid (blk_bel b20 HY2.out); have KB20 := Lib.hid (KB.out _ B20.out); clear b20))
                | (refine wpList_gload_row (by rfl) (.tmp 6) rfl w1.heap.size rfl cs KB20.out.2 ZS.out ?_)
                | (go_at_call 10; ((with_reducible refine (alike_any KB20.out.1 (by omega)).mono ?_); rintro e w21 ⟨rfl, b21⟩; have B21 := Lib.hid (B20.out.trans (b21.mono B20.out.size)); have HF21 := Lib.hid (HF20.out.later b21); have YF21 := Lib.hid (blk_bel b21 YF20.out); clear b21 KB20))
                | (refine wpList_gload_row (by rfl) (.tmp 9) rfl gy rfl cs2 YF21.out ZS2.out ?_)
                | (go_at_call 10; ((with_reducible refine (alike_any HF21.out (by omega)).mono ?_); rintro e w22 ⟨rfl, b22⟩; have B22 := Lib.hid (B21.out.trans (b22.mono B21.out.size)); clear b22))
                | (go_at_call 12; ((with_reducible refine (nil_enter _ 1).mono ?_); rintro e w23 ⟨rfl, b23⟩; have B23 := Lib.hid (B22.out.trans (b23.mono B22.out.size)); clear b23))
                | (go_at_call 20; ((with_reducible refine (nil_leave _ 1).mono ?_); rintro e w24 ⟨rfl, b24⟩; have B24 := Lib.hid (B23.out.trans (b24.mono B23.out.size)); clear b24))
                | (go_at_call 14; ((with_reducible refine (nil_retire _ 1).mono ?_); rintro e w25 ⟨rfl, b25⟩; have B25 := Lib.hid (B24.out.trans (b25.mono B24.out.size)); clear b25))
                | (go_at_call 16; ((with_reducible refine (nil_ready _).mono ?_); rintro e w26 ⟨rfl, b26⟩; have B26 := Lib.hid (B25.out.trans (b26.mono B25.out.size)); clear b26))
                | (go_at_call 21; ((with_reducible refine (nil_waits _).mono ?_); rintro e w27 ⟨rfl, b27⟩; have B27 := Lib.hid (B26.out.trans (b27.mono B26.out.size)); clear b27))
                | (go_at_call 24; ((with_reducible refine (nil_now _).mono ?_); rintro e w28 ⟨rfl, b28⟩; have B28 := Lib.hid (B27.out.trans (b28.mono B27.out.size)); clear b28))
                | (go_at_call 23; ((with_reducible refine (nil_least _).mono ?_); rintro e w29 ⟨rfl, b29⟩; have B29 := Lib.hid (B28.out.trans (b29.mono B28.out.size)); clear b29))
                | (go_at_call 19; ((with_reducible refine (nil_in _ 1).mono ?_); rintro e w30 ⟨rfl, b30⟩; have B30 := Lib.hid (B29.out.trans (b30.mono B29.out.size)); clear b30))
                | (go_at_call 25; ((with_reducible refine (nil_fork _).mono ?_); rintro e w31 ⟨rfl, b31⟩; have B31 := Lib.hid (B30.out.trans (b31.mono B30.out.size)); clear b31))
                | fail)
              go_ret
              exact ⟨rfl, HB.out.trans (B31.out.mono HB.out.size)⟩
      · have hk1 : ¬ (k : Int) < (n' : Int) := by omega
        obtain ⟨bf, hbf⟩ : ∃ b, b = playR e0 e1 e2 b0 k := ⟨_, rfl⟩
        rw [← hbf] at HST
        have HSU := Lib.hid (HST.out.more (c' := 120) (by omega))
        have HWL := Lib.hid HSU.out.wlen
        have ZS2 := Lib.hid HSU.out.size
        have GYL := Lib.hid (HSU.out.kept gy rfl)
        have QW := Lib.hid (q_waits HSU.out (by omega))
        clear hbf
        go_wp2_with (first
          | (go_at_call 21; ((with_reducible refine QW.out.mono ?_); rintro e w5 ⟨A5, k5, rfl, r5, b5⟩; have R5 := Lib.hid r5; have H5 := Lib.hid (HSU.out.wide b5 (KR gy A5 k5) (KR.to r5)); have Y5 := Lib.hid (blk_bel b5 HY.out); have B5 : Hid (Below W.heap.size W w5) := Lib.hid (HBR.out.trans (b5.mono HBR.out.size)); clear r5 b5))
          | fail)
        go_loopw [14] (fun iv wr2 => ∃ (j : Nat) (l2 : List Int), j ≤ bf.wl.length ∧ iv = .int .i64 j ∧ l2.length = bf.wl.length ∧ Row wr2 wr.heap.size A5 l2 k5 ∧ ST 120 W.heap.size N' (KR gy A5 k5) bf bf wr2 cs2 ∧ wr2.heap[gy]? = some (.cells cs2 32 (0, 0)) ∧ Below W.heap.size W wr2) (fun i _ => bf.wl.length - (intOf i).toNat)
        case atStart => exact ⟨0, bf.wl, by omega, rfl, rfl, R5.out, H5.out, Y5.out, B5.out⟩
        case round =>
          obtain ⟨j, l2, hj, rfl, hl2, hr2, hst2, hy2, hb2⟩ := hrel
          have HR2 := Lib.hid hr2
          have HS2 := Lib.hid hst2
          have HY2 := Lib.hid hy2
          have HB2 := Lib.hid hb2
          have HL2 := Lib.hid hl2
          clear hr2 hst2 hy2 hb2 hl2 R5 H5 Y5 B5
          by_cases h10 : j < bf.wl.length
          · have hj1 : (j : Int) < (bf.wl.length : Int) := by omega
            have hj0 : (0 : Int) ≤ (j : Int) := by omega
            have hj2 : (j : Int) < 121 := by have := HWL.out; omega
            obtain ⟨g, rfl, hg, f1, f2, hset⟩ := HR2.out.place (j := j) (by have := HL2.out; omega)
            have HSET := Lib.hid hset
            have HG := Lib.hid hg
            have HGL := Lib.hid (HR2.out.fp_lt hg).1
            obtain ⟨y, hy⟩ : ∃ y, y = l2.getD j 0 := ⟨_, rfl⟩
            rw [← hy] at f1
            clear hset hg hy
            go_wp2_with fail
            refine ⟨⟨j + 1, _, by omega, by simp, ?_, HSET.out _, HS2.out.apart grown_set (.inr HG.out), (heap_setCell_other _ _ _ _ (by have := GYL.out; have := HGL.out; simp; omega)).trans HY2.out, HB2.out.setCell (by have := HBR.out.size; have := HGL.out; simp; omega) _⟩, by simp [intOf]; omega⟩
            rw [List.length_set]; exact HL2.out
          · have hj1 : ¬ (j : Int) < (bf.wl.length : Int) := by omega
            clear HR2
            go_wp2_with (first
              | (go_at_call 8; ((with_reducible refine (live_any _).mono ?_); rintro e w20 ⟨rfl, b20⟩; have B20 := Lib.hid (HB2.out.trans (b20.mono HB2.out.size)); have HF20 := Lib.hid (HS2.out.later b20); have YF20 := Lib.hid (blk_bel b20 HY2.out); have KB20 := Lib.hid (KB.out _ B20.out); clear b20))
              | (refine wpList_gload_row (by rfl) (.tmp 6) rfl w1.heap.size rfl cs KB20.out.2 ZS.out ?_)
              | (go_at_call 10; ((with_reducible refine (alike_any KB20.out.1 (by omega)).mono ?_); rintro e w21 ⟨rfl, b21⟩; have B21 := Lib.hid (B20.out.trans (b21.mono B20.out.size)); have HF21 := Lib.hid (HF20.out.later b21); have YF21 := Lib.hid (blk_bel b21 YF20.out); clear b21 KB20))
              | (refine wpList_gload_row (by rfl) (.tmp 9) rfl gy rfl cs2 YF21.out ZS2.out ?_)
              | (go_at_call 10; ((with_reducible refine (alike_any HF21.out (by omega)).mono ?_); rintro e w22 ⟨rfl, b22⟩; have B22 := Lib.hid (B21.out.trans (b22.mono B21.out.size)); clear b22))
              | (go_at_call 12; ((with_reducible refine (nil_enter _ 1).mono ?_); rintro e w23 ⟨rfl, b23⟩; have B23 := Lib.hid (B22.out.trans (b23.mono B22.out.size)); clear b23))
              | (go_at_call 20; ((with_reducible refine (nil_leave _ 1).mono ?_); rintro e w24 ⟨rfl, b24⟩; have B24 := Lib.hid (B23.out.trans (b24.mono B23.out.size)); clear b24))
              | (go_at_call 14; ((with_reducible refine (nil_retire _ 1).mono ?_); rintro e w25 ⟨rfl, b25⟩; have B25 := Lib.hid (B24.out.trans (b25.mono B24.out.size)); clear b25))
              | (go_at_call 16; ((with_reducible refine (nil_ready _).mono ?_); rintro e w26 ⟨rfl, b26⟩; have B26 := Lib.hid (B25.out.trans (b26.mono B25.out.size)); clear b26))
              | (go_at_call 21; ((with_reducible refine (nil_waits _).mono ?_); rintro e w27 ⟨rfl, b27⟩; have B27 := Lib.hid (B26.out.trans (b27.mono B26.out.size)); clear b27))
              | (go_at_call 24; ((with_reducible refine (nil_now _).mono ?_); rintro e w28 ⟨rfl, b28⟩; have B28 := Lib.hid (B27.out.trans (b28.mono B27.out.size)); clear b28))
              | (go_at_call 23; ((with_reducible refine (nil_least _).mono ?_); rintro e w29 ⟨rfl, b29⟩; have B29 := Lib.hid (B28.out.trans (b29.mono B28.out.size)); clear b29))
              | (go_at_call 19; ((with_reducible refine (nil_in _ 1).mono ?_); rintro e w30 ⟨rfl, b30⟩; have B30 := Lib.hid (B29.out.trans (b30.mono B29.out.size)); clear b30))
              | (go_at_call 25; ((with_reducible refine (nil_fork _).mono ?_); rintro e w31 ⟨rfl, b31⟩; have B31 := Lib.hid (B30.out.trans (b31.mono B30.out.size)); clear b31))
              | fail)
            go_ret
            exact ⟨rfl, HB.out.trans (B31.out.mono HB.out.size)⟩
end Go.Proofs.Ytlffigkjhhcohaa
