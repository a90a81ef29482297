/- kids: its one kid. -/
import Derived.Test.YtniffjjkjgfacaaY6
import Derived.Test.YtniffjjkjgfacaaX3
namespace Go.Proofs.Ytniffjjkjgfacaa
set_option linter.unusedSimpArgs false
open Go.RowKit Go.Maps Go.Shelf
set_option linter.unusedVariables false
attribute [local go_sem] Oper.semAt_some
set_option maxRecDepth 100000 in
set_option maxHeartbeats 4000000 in
theorem kids1 (kb : Nat) (w : World) (hk : w.heap[kb]? = some (.cells #[.int .i64 2] 3 (0, 0))) : Calls Try.prog 59 #[N1 kb, SP1] w (KidsPost w) := by
  obtain ⟨V, hV⟩ : ∃ V, V = ((w.alloc (.cells #[.int .u8 2, S0, KS kb, S0, S0] 43)).alloc (.cells #[.int .i64 1, E0, E0, .int .i64 0, .int .i64 0] 90)).alloc (.cells #[S0] 83) := ⟨_, rfl⟩
  have HV : Hid (Below w.heap.size w V) := Lib.hid (by rw [hV]; go_grown)
  have HK : Hid (KB V w.heap.size kb ∧ Boxed V (w.heap.size + 1 + 1) 83 S0) := by
    obtain ⟨a, b, c⟩ := heap3 w (.cells #[.int .u8 2, S0, KS kb, S0, S0] 43 (0, 0)) (.cells #[.int .i64 1, E0, E0, .int .i64 0, .int .i64 0] 90 (0, 0)) (.cells #[S0] 83 (0, 0))
    have hk2 := keep_bel HV.out hk
    rw [hV] at hk2 ⊢
    exact Lib.hid ⟨⟨a, b, hk2, (Array.getElem?_eq_some_iff.1 hk).1⟩, c⟩
  clear hk
  subst hV
  refine (callsIn_wide (n := 4)).1 ?_
  refine callsIn_of_wp_marks Try.func59 rfl trivial ?_ rfl
  simp only [Try.ntmps59, List.size_toArray, List.length_cons, List.length_nil, Nat.reduceAdd, Nat.reduceSub, Array.replicate_succ, Array.replicate_zero, List.push_toArray, List.append_toArray, List.nil_append, List.cons_append]
  gi_wp2_with (first
    | (refine ⟨trivial, ?_⟩; gi_at_call 69; refine (callsIn_wide.2 (all0 _)).mono ?_; rintro e w1 ⟨B1, B2, B3, rfl, ⟨l1, l2, l3⟩, pb, b1⟩; have PBH := Lib.hid pb; have B1H := Lib.hid (bel_trans HV.out b1); have K1 : Hid (KB w1 w.heap.size kb) := Lib.hid (HK.out.1.later b1); have X1 := Lib.hid (boxed_later HK.out.2 b1); clear pb b1)
    | fail)
  have w1s : w.heap.size + 1 + 1 + 1 ≤ w1.heap.size := by have := X1.out.lt; omega
  have m1 : w.heap.size + 1 + 1 + 1 ≤ B1 := by simpa using l1
  have m2 : w.heap.size + 1 + 1 + 1 ≤ B2 := by simpa using l2
  have m3 : w.heap.size + 1 + 1 + 1 ≤ B3 := by simpa using l3
  clear l1 l2 l3
  refine range_R (gf := 74) (lb := #[.pointer (some ⟨B1, 0, none⟩), .pointer (some ⟨B2, 0, none⟩), .pointer (some ⟨B3, 0, none⟩)]) (encs := encP) (xs := [()]) rfl (enters_of Try.func74 (by kernel_rfl) rfl) (all0_seq B1 B2 B3) PBH.out (fun W W' h b => h.later b) (fun g hg => ?_) (fun _ => rfl) (KdI (w.heap.size + 1 + 1)) (fun _ _ _ _ => False) (kdI_loc _ _) (fun c k D W W' h _ => h)
    (fun g => g = w.heap.size + 1 + 1) (fun g hg => ?_) ⟨none, 0, by funext g; simp [RE.fp], X1.out, .inl ⟨rfl, rfl⟩⟩
    (fun x U => { tmps := #[N1 kb, SP1, .pointer (some ⟨w.heap.size, 0, none⟩), .pointer (some ⟨w.heap.size + 1, 0, none⟩), .slice none 0 0, .pointer (some ⟨w.heap.size + 1 + 1, 0, none⟩), .int .i64 0, .pointer (some ⟨U.heap.size, 0, none⟩), .pointer (some ⟨w.heap.size, 1, none⟩), S0, .pointer (some ⟨w.heap.size + 1, 1, none⟩), .agg #[E0, E0], .func (.func 74) #[] #[.pointer (some ⟨B1, 0, none⟩), .pointer (some ⟨B2, 0, none⟩), .pointer (some ⟨B3, 0, none⟩)], .int .i64 0, RG0, undef, undef, undef, undef, undef, undef, undef, undef, undef, undef, undef, undef, undef, undef, undef, undef, undef, undef, undef, undef, undef], defers := [] }) (fun x U => U.alloc (.cells #[E0, E0] 88)) (fun x U => alb U _) ?_ ?_ ?_ ?_
  · rcases hg with rfl | rfl | rfl
    · exact PBH.out.b1.lt
    · exact PBH.out.b2.lt
    · exact (Array.getElem?_eq_some_iff.1 PBH.out.b3).1
  · have hg' : g = w.heap.size + 1 + 1 := hg
    refine ⟨fun hf => ?_, by omega⟩
    rcases hf with h | h | h <;> omega
  · intro m l x U K hK
    simp only [encP]
    gi_wp2
    exact hK
  · rintro m l k p D U V o hx hl hlU rfl hinD hlD hgr hch ⟨A', c', rfl, hbx, hrow⟩
    obtain ⟨Z, hZ⟩ : ∃ Z, Z = (U.alloc (.cells #[E0, E0] 88)).putObj l o := ⟨_, rfl⟩
    try simp only at hbx
    try simp only at hrow
    try simp only at hch
    try simp only at hgr
    rw [← hZ] at hbx hrow hch hgr
    have hk0 : k = 0 := by
      have := (List.getElem?_eq_some_iff.1 hx).1
      simp at this
      exact this
    subst hk0
    have kbz : KB Z w.heap.size kb := K1.out.chg hch (by omega) (by omega) (by have := K1.out.lt; omega)
    have zbx : Z.heap[U.heap.size]? = some (.cells #[E0, E0] 88 (0, 0)) := by
      rw [hZ]
      exact (World.putObj_heap_other (by omega)).trans (heap_alloc_new U _)
    have hul : w1.heap.size < U.heap.size := by omega
    have hrow0 : ES.Row Z (w.heap.size + 1 + 1 + 1) A' [] c' := hrow
    have hfp : ∀ g, RE.fp A' c' = some g → w.heap.size + 1 + 1 + 1 ≤ g ∧ g < U.heap.size := fun g e => ⟨(hrow0.fp_lt e).1, hinD g (.inr e)⟩
    have zs : U.heap.size < Z.heap.size := (Array.getElem?_eq_some_iff.1 zbx).1
    have bZ : Below Z.heap.size Z (Z.drew.alloc (.cells #[.int .i64 2, E0, E0, .int .i64 1, .int .i64 0] 90)) := bel_trans (drew_bel Z) (alb Z.drew _)
    have RW : Hid (ES.Row (Z.drew.alloc (.cells #[.int .i64 2, E0, E0, .int .i64 1, .int .i64 0] 90)) (w.heap.size + 1 + 1 + 1) A' [] c') := Lib.hid (hrow0.later bZ)
    have RL := Lib.hid (RE.Rd.lit (E := ES) Z.drew 90 [sp2] #[.int .i64 2, E0, E0, .int .i64 1, .int .i64 0] rfl)
    have HBX := Lib.hid (boxed_later hbx (drew_bel Z))
    have BXA := Lib.hid (boxed_later hbx bZ)
    have HZS : Hid (w.heap.size + 1 + 1 + 1 ≤ (Z.drew.alloc (.cells #[.int .i64 2, E0, E0, .int .i64 1, .int .i64 0] 90)).heap.size) := Lib.hid (by simp; omega)
    have hS : ∀ V, KB V w.heap.size kb → V.heap[U.heap.size]? = some (.cells #[E0, E0] 88 (0, 0)) → (fun V : World => V.cell? ⟨w.heap.size, 2, none⟩ = some (KS kb) ∧ V.cell? ⟨kb, 0, none⟩ = some (.int .i64 2) ∧ V.cell? ⟨U.heap.size, 0, none⟩ = some E0 ∧ V.cell? ⟨U.heap.size, 1, none⟩ = some E0 ∧ V.cell? ⟨w.heap.size + 1, 0, none⟩ = some (.int .i64 1)) V := fun V k1 k2 => ⟨by simp [World.cell?, k1.n], by simp [World.cell?, k1.kc], by simp [World.cell?, k2], by simp [World.cell?, k2], by simp [World.cell?, k1.s]⟩
    have HS0 : Hid ((fun V : World => V.cell? ⟨w.heap.size, 2, none⟩ = some (KS kb) ∧ V.cell? ⟨kb, 0, none⟩ = some (.int .i64 2) ∧ V.cell? ⟨U.heap.size, 0, none⟩ = some E0 ∧ V.cell? ⟨U.heap.size, 1, none⟩ = some E0 ∧ V.cell? ⟨w.heap.size + 1, 0, none⟩ = some (.int .i64 1)) Z.drew) := Lib.hid (hS _ (kbz.later (drew_bel Z)) (keep_bel (drew_bel Z) zbx))
    have HSA : Hid ((fun V : World => V.cell? ⟨w.heap.size, 2, none⟩ = some (KS kb) ∧ V.cell? ⟨kb, 0, none⟩ = some (.int .i64 2) ∧ V.cell? ⟨U.heap.size, 0, none⟩ = some E0 ∧ V.cell? ⟨U.heap.size, 1, none⟩ = some E0 ∧ V.cell? ⟨w.heap.size + 1, 0, none⟩ = some (.int .i64 1)) (Z.drew.alloc (.cells #[.int .i64 2, E0, E0, .int .i64 1, .int .i64 0] 90))) := Lib.hid (hS _ (kbz.later bZ) (keep_bel bZ zbx))
    have HSG : Hid (∀ w3, (Z.drew.alloc (.cells #[.int .i64 2, E0, E0, .int .i64 1, .int .i64 0] 90)).grownBy w3 (RE.fp A' c') → (fun V : World => V.cell? ⟨w.heap.size, 2, none⟩ = some (KS kb) ∧ V.cell? ⟨kb, 0, none⟩ = some (.int .i64 2) ∧ V.cell? ⟨U.heap.size, 0, none⟩ = some E0 ∧ V.cell? ⟨U.heap.size, 1, none⟩ = some E0 ∧ V.cell? ⟨w.heap.size + 1, 0, none⟩ = some (.int .i64 1)) w3) := Lib.hid (fun w3 g3 => hS _ ((kbz.later bZ).chg (chg_of_grown g3) (fun e => by have := hfp _ e; omega) (fun e => by have := hfp _ e; omega) (fun e => by have := hfp _ e; have := kbz.lt; omega)) (keep_chg (chg_of_grown g3) (keep_bel bZ zbx) (fun e => by have := hfp _ e; omega)))
    have HSG3 : Hid (∀ w3 v, (fun V : World => V.cell? ⟨w.heap.size, 2, none⟩ = some (KS kb) ∧ V.cell? ⟨kb, 0, none⟩ = some (.int .i64 2) ∧ V.cell? ⟨U.heap.size, 0, none⟩ = some E0 ∧ V.cell? ⟨U.heap.size, 1, none⟩ = some E0 ∧ V.cell? ⟨w.heap.size + 1, 0, none⟩ = some (.int .i64 1)) w3 → (fun V : World => V.cell? ⟨w.heap.size, 2, none⟩ = some (KS kb) ∧ V.cell? ⟨kb, 0, none⟩ = some (.int .i64 2) ∧ V.cell? ⟨U.heap.size, 0, none⟩ = some E0 ∧ V.cell? ⟨U.heap.size, 1, none⟩ = some E0 ∧ V.cell? ⟨w.heap.size + 1, 0, none⟩ = some (.int .i64 1)) (w3.setCell ⟨w.heap.size + 1 + 1, 0, none⟩ v)) := Lib.hid (fun w3 v ⟨s1, s2, s3, s4, s5⟩ => (by
      have hkm := kbz.lt
      refine ⟨?_, ?_, ?_, ?_, ?_⟩ <;> (rw [World.cell?_setCell_other (h := fun e => by simp only [Addr.mk.injEq] at e; omega)]; assumption)))
    have HFIN : Hid (∀ A2 c2 w3, ES.Row w3 (w.heap.size + 1 + 1 + 1) A2 ([] ++ [sp2]) c2 → (Z.drew.alloc (.cells #[.int .i64 2, E0, E0, .int .i64 1, .int .i64 0] 90)).grownBy w3 (RE.fp A' c') → (RE.fp A2 c2 = none ∨ RE.fp A2 c2 = RE.fp A' c' ∨ RE.fp A2 c2 = some (Z.drew.alloc (.cells #[.int .i64 2, E0, E0, .int .i64 1, .int .i64 0] 90)).heap.size) → Boxed w3 (w.heap.size + 1 + 1) 83 (.slice A' 0 c') →
        ∃ D', Gr (fun g => g = w.heap.size + 1 + 1 ∨ RE.fp A' c' = some g) D' Z (w3.setCell ⟨w.heap.size + 1 + 1, 0, none⟩ (.slice A2 1 c2)) ∧ Chg (fun g => g = w.heap.size + 1 + 1 ∨ RE.fp A' c' = some g) Z (w3.setCell ⟨w.heap.size + 1 + 1, 0, none⟩ (.slice A2 1 c2)) ∧ KdI (w.heap.size + 1 + 1) 1 D' (w3.setCell ⟨w.heap.size + 1 + 1, 0, none⟩ (.slice A2 1 c2))) := Lib.hid (fun A2 c2 w3 r1 r2 r3 bx => (by
      have cs : Chg (fun g => g = w.heap.size + 1 + 1) w3 (w3.setCell ⟨w.heap.size + 1 + 1, 0, none⟩ (.slice A2 1 c2)) := Chg.set _ _ rfl
      refine ⟨fun g => g = w.heap.size + 1 + 1 ∨ RE.fp A2 c2 = some g, fun g hg => ?_, ?_, A2, c2, rfl, bx.set _, r1.chg cs (fun g e h => by have := (r1.fp_lt e).1; omega)⟩
      · rcases hg with e | e
        · exact .inl (.inl e)
        · rcases r3 with h | h | h
          · rw [h] at e; cases e
          · rw [h] at e; exact .inl (.inr e)
          · have e2 := h.symm.trans e
            have := (r1.fp_lt e).2
            simp at e2
            exact .inr ⟨by omega, by simpa using this⟩
      · exact ((Chg.of_below bZ).trans (chg_of_grown r2) (fun g hg => .inl (.inr hg))).trans cs (fun g hg => .inl (.inl hg))))
    have q1 : Z.cell? ⟨w.heap.size, 2, none⟩ = some (KS kb) := by simp [World.cell?, kbz.n]
    clear hx hl hlU hinD hlD hgr hch hbx hrow hrow0 hfp zs bZ hS kbz zbx hul
    change (Code.block 1 _).wpIn _ _ _ _ _ ((U.alloc (.cells #[E0, E0] 88)).putObj l o)
    rw [← hZ]
    clear hZ
    gi_wp2_with fail
    refine region_round_held (S := (fun V : World => V.cell? ⟨w.heap.size, 2, none⟩ = some (KS kb) ∧ V.cell? ⟨kb, 0, none⟩ = some (.int .i64 2) ∧ V.cell? ⟨U.heap.size, 0, none⟩ = some E0 ∧ V.cell? ⟨U.heap.size, 1, none⟩ = some E0 ∧ V.cell? ⟨w.heap.size + 1, 0, none⟩ = some (.int .i64 1))) (by kernel_rfl) (fun o ho c => ?_) ?_ (fun hHeld => ?_)
    · simp only [List.mem_toArray, List.mem_cons, List.not_mem_nil, or_false] at ho; rcases ho with rfl | rfl | rfl | rfl | rfl | rfl | rfl | rfl | rfl | rfl | rfl | rfl | rfl | rfl <;> (intro h; cases h)
    · exact HS0.out
    have HHeld := Lib.hid hHeld; clear hHeld
    refine wpAnyH_take (i := 1) (oi := { dst := some 21, op := Op.fieldAddr 43 (Operand.tmp 2) 2, type := 0, pos := "tree.go:73", after := #[], guard := none }) (v := ?_) rfl (by kernel_rfl) (by kernel_rfl) (by kernel_rfl) (fun _ _ _ h => h) (Or.inl ⟨by rfl, ?_⟩) HHeld.out ?_
    rotate_left
    · intro w hSw; clear hSw; go_simp; try with_reducible rfl
    try simp only [Act.put, List.setIfInBounds_toArray, List.set_cons_zero, List.set_cons_succ]
    refine wpAnyH_take (i := 2) (oi := { dst := some 22, op := Op.load 26 (Operand.tmp 21), type := 26, pos := "tree.go:73", after := #[{ on := 1, ground := Ground.data }], guard := none }) (v := KS kb) rfl (by kernel_rfl) (by kernel_rfl) (by kernel_rfl) (fun _ _ _ h => h) (Or.inl ⟨by rfl, ?_⟩) HHeld.out ?_
    · intro V hV; have hc0 := hV.1; clear hV; go_simp
    try simp only [Act.put, List.setIfInBounds_toArray, List.set_cons_zero, List.set_cons_succ]
    refine wpAnyH_take (i := 3) (oi := { dst := some 23, op := Op.move (Operand.tmp 6), type := 3, pos := "tree.go:73", after := #[], guard := none }) (v := ?_) rfl (by kernel_rfl) (by kernel_rfl) (by kernel_rfl) (fun _ _ _ h => h) (Or.inl ⟨by rfl, ?_⟩) HHeld.out ?_
    rotate_left
    · intro w hSw; clear hSw; go_simp; try with_reducible rfl
    try simp only [Act.put, List.setIfInBounds_toArray, List.set_cons_zero, List.set_cons_succ]
    refine wpAnyH_take (i := 4) (oi := { dst := some 24, op := Op.indexAddr 26 (Operand.tmp 22) (Operand.tmp 23), type := 0, pos := "tree.go:73", after := #[{ on := 2, ground := Ground.data }, { on := 3, ground := Ground.data }], guard := none }) (v := ?_) rfl (by kernel_rfl) (by kernel_rfl) (by kernel_rfl) (fun _ _ _ h => h) (Or.inl ⟨by rfl, ?_⟩) HHeld.out ?_
    rotate_left
    · intro w hSw; clear hSw; go_simp; try with_reducible rfl
    try simp only [Act.put, List.setIfInBounds_toArray, List.set_cons_zero, List.set_cons_succ]
    refine wpAnyH_take (i := 5) (oi := { dst := some 25, op := Op.load 3 (Operand.tmp 24), type := 3, pos := "tree.go:73", after := #[{ on := 4, ground := Ground.data }], guard := none }) (v := Value.int .i64 2) rfl (by kernel_rfl) (by kernel_rfl) (by kernel_rfl) (fun _ _ _ h => h) (Or.inl ⟨by rfl, ?_⟩) HHeld.out ?_
    · intro V hV; have hc0 := hV.2.1; clear hV; go_simp
    try simp only [Act.put, List.setIfInBounds_toArray, List.set_cons_zero, List.set_cons_succ]
    refine wpAnyH_take (i := 6) (oi := { dst := some 26, op := Op.load 88 (Operand.tmp 7), type := 88, pos := "tree.go:73", after := #[], guard := none }) (v := RG0) rfl (by kernel_rfl) (by kernel_rfl) (by kernel_rfl) (fun _ _ _ h => h) (Or.inl ⟨by rfl, ?_⟩) HHeld.out ?_
    · intro V hV; have hc0 := hV.2.2.1; have hc1 := hV.2.2.2.1; clear hV; go_simp
    try simp only [Act.put, List.setIfInBounds_toArray, List.set_cons_zero, List.set_cons_succ]
    refine wpAnyH_take (i := 7) (oi := { dst := some 27, op := Op.fieldAddr 90 (Operand.tmp 3) 0, type := 0, pos := "tree.go:73", after := #[], guard := none }) (v := ?_) rfl (by kernel_rfl) (by kernel_rfl) (by kernel_rfl) (fun _ _ _ h => h) (Or.inl ⟨by rfl, ?_⟩) HHeld.out ?_
    rotate_left
    · intro w hSw; clear hSw; go_simp; try with_reducible rfl
    try simp only [Act.put, List.setIfInBounds_toArray, List.set_cons_zero, List.set_cons_succ]
    refine wpAnyH_take (i := 8) (oi := { dst := some 28, op := Op.load 3 (Operand.tmp 27), type := 3, pos := "tree.go:73", after := #[{ on := 7, ground := Ground.data }], guard := none }) (v := Value.int .i64 1) rfl (by kernel_rfl) (by kernel_rfl) (by kernel_rfl) (fun _ _ _ h => h) (Or.inl ⟨by rfl, ?_⟩) HHeld.out ?_
    · intro V hV; have hc0 := hV.2.2.2.2; clear hV; go_simp
    try simp only [Act.put, List.setIfInBounds_toArray, List.set_cons_zero, List.set_cons_succ]
    refine wpAnyH_take (i := 9) (oi := { dst := some 29, op := Op.move (Operand.tmp 6), type := 3, pos := "tree.go:73", after := #[], guard := none }) (v := ?_) rfl (by kernel_rfl) (by kernel_rfl) (by kernel_rfl) (fun _ _ _ h => h) (Or.inl ⟨by rfl, ?_⟩) HHeld.out ?_
    rotate_left
    · intro w hSw; clear hSw; go_simp; try with_reducible rfl
    try simp only [Act.put, List.setIfInBounds_toArray, List.set_cons_zero, List.set_cons_succ]
    refine wpAnyH_take (i := 10) (oi := { dst := some 30, op := Op.build 90 #[(0, Operand.tmp 25), (1, Operand.tmp 26), (2, Operand.tmp 28), (3, Operand.tmp 29)], type := 90, pos := "tree.go:73", after := #[{ on := 5, ground := Ground.data }, { on := 6, ground := Ground.data }, { on := 8, ground := Ground.data }, { on := 9, ground := Ground.data }], guard := none }) (v := ?_) rfl (by kernel_rfl) (by kernel_rfl) (by kernel_rfl) (fun _ _ _ h => h) (Or.inl ⟨by rfl, ?_⟩) HHeld.out ?_
    rotate_left
    · intro w hSw; clear hSw; go_simp; try with_reducible rfl
    try simp only [Act.put, List.setIfInBounds_toArray, List.set_cons_zero, List.set_cons_succ]
    refine wpAnyH_ready (rs := [0, 11]) (by kernel_rfl) (by simp) ?_
    refine AllReadyH.cons (o := { dst := some 20, op := Op.load 83 (Operand.tmp 5), type := 83, pos := "tree.go:73", after := #[], guard := none }) rfl (fun K hK => ?_) (AllReadyH.cons (o := { dst := some 31, op := Op.buildSlice 83 1 #[(0, Operand.tmp 30)], type := 83, pos := "tree.go:73", after := #[{ on := 10, ground := Ground.data }], guard := none }) rfl (fun K hK => ?_) AllReadyH.nil)
    · have cz := HBX.out.cell
      go_simp
      refine hK.out _ _ ?_ (fun hHeld => ?_)
      · exact HS0.out
      clear HHeld; have HHeld := Lib.hid hHeld; clear hHeld
      clear hK K
      try simp only [Act.put, List.setIfInBounds_toArray, List.set_cons_zero, List.set_cons_succ]
      refine wpAnyH_ready (rs := [11]) (by kernel_rfl) (by simp) ?_
      refine AllReadyH.cons (o := { dst := some 31, op := Op.buildSlice 83 1 #[(0, Operand.tmp 30)], type := 83, pos := "tree.go:73", after := #[{ on := 10, ground := Ground.data }], guard := none }) rfl (fun K hK => ?_) AllReadyH.nil
      go_simp
      refine hK.out _ _ ?_ (fun hHeld => ?_)
      · exact HSA.out
      clear HHeld; have HHeld := Lib.hid hHeld; clear hHeld
      clear hK K
      try simp only [Act.put, List.setIfInBounds_toArray, List.set_cons_zero, List.set_cons_succ]
      refine wpAnyH_ready (rs := [12]) (by kernel_rfl) (by simp) ?_
      refine AllReadyH.cons (o := { dst := some 32, op := Op.call { callee := Callee.builtin Builtin.append, args := #[Operand.tmp 20, Operand.tmp 31], argTypes := #[83, 83] }, type := 83, pos := "tree.go:73", after := #[{ on := 0, ground := Ground.data }, { on := 11, ground := Ground.data }], guard := none }) rfl (fun K hK => ?_) AllReadyH.nil
      refine RE.step_put ES _ rfl (.tmp 20) (.tmp 31) rfl (base := w.heap.size + 1 + 1 + 1) A' 0 c' [] (some ⟨Z.heap.size, 0, none⟩) 1 1 [sp2] (by simp [Act.eval, Act.put]) (by simp [Act.eval, Act.put]) RW.out rfl (by omega) HZS.out rfl (by omega) RL.out ?_
      intro A2 c2 w3 r1 r2 r3
      have R1 := Lib.hid r1; have R2 := Lib.hid r2; have R3 := Lib.hid r3
      have BX3 := Lib.hid (boxed_chg BXA.out (chg_of_grown r2) (fun e => by have := (RW.out.fp_lt e).1; omega))
      have HS3 : Hid ((fun V : World => V.cell? ⟨w.heap.size, 2, none⟩ = some (KS kb) ∧ V.cell? ⟨kb, 0, none⟩ = some (.int .i64 2) ∧ V.cell? ⟨U.heap.size, 0, none⟩ = some E0 ∧ V.cell? ⟨U.heap.size, 1, none⟩ = some E0 ∧ V.cell? ⟨w.heap.size + 1, 0, none⟩ = some (.int .i64 1)) w3) := Lib.hid (HSG.out _ r2)
      clear r1 r2 r3
      refine hK.out _ _ ?_ (fun hHeld => ?_)
      · exact HS3.out
      clear HHeld; have HHeld := Lib.hid hHeld; clear hHeld
      clear hK K
      try simp only [Act.put, List.setIfInBounds_toArray, List.set_cons_zero, List.set_cons_succ]
      refine wpAnyH_ready (rs := [13]) (by kernel_rfl) (by simp) ?_
      refine AllReadyH.cons (o := { dst := none, op := Op.store 83 (Operand.tmp 5) (Operand.tmp 32), type := 0, pos := "tree.go:73", after := #[{ on := 12, ground := Ground.data }, { on := 12, ground := Ground.chain }, { on := 0, ground := Ground.phase }, { on := 1, ground := Ground.phase }, { on := 2, ground := Ground.phase }, { on := 3, ground := Ground.phase }, { on := 4, ground := Ground.phase }, { on := 5, ground := Ground.phase }, { on := 6, ground := Ground.phase }, { on := 7, ground := Ground.phase }, { on := 8, ground := Ground.phase }, { on := 9, ground := Ground.phase }, { on := 10, ground := Ground.phase }, { on := 11, ground := Ground.phase }, { on := 12, ground := Ground.phase }], guard := none }) rfl (fun K hK => ?_) AllReadyH.nil
      have cz := BX3.out.cell; have fz := BX3.out.frozen
      go_simp
      refine hK.out _ _ ?_ (fun hHeld => ?_)
      · exact HSG3.out _ _ HS3.out
      clear HHeld; have HHeld := Lib.hid hHeld; clear hHeld
      clear hK K
      try simp only [Act.put, List.setIfInBounds_toArray, List.set_cons_zero, List.set_cons_succ]
      refine wpAnyH_done (by kernel_rfl) ?_ _
      refine calm_normal ?_
      first | exact HFIN.out _ _ _ R1.out R2.out R3.out BX3.out | (gi_wp2; exact HFIN.out _ _ _ R1.out R2.out R3.out BX3.out)
    · go_simp
      refine hK.out _ _ ?_ (fun hHeld => ?_)
      · exact HSA.out
      clear HHeld; have HHeld := Lib.hid hHeld; clear hHeld
      clear hK K
      try simp only [Act.put, List.setIfInBounds_toArray, List.set_cons_zero, List.set_cons_succ]
      refine wpAnyH_ready (rs := [0]) (by kernel_rfl) (by simp) ?_
      refine AllReadyH.cons (o := { dst := some 20, op := Op.load 83 (Operand.tmp 5), type := 83, pos := "tree.go:73", after := #[], guard := none }) rfl (fun K hK => ?_) AllReadyH.nil
      have cz : (Z.alloc (.cells #[.int .i64 2, E0, E0, .int .i64 1, .int .i64 0] 90)).cell? ⟨w.heap.size + 1 + 1, 0, none⟩ = some (.slice A' 0 c') := (boxed_later HBX.out (alb Z.drew (.cells #[.int .i64 2, E0, E0, .int .i64 1, .int .i64 0] 90))).cell
      go_simp
      refine hK.out _ _ ?_ (fun hHeld => ?_)
      · exact HSA.out
      clear HHeld; have HHeld := Lib.hid hHeld; clear hHeld
      clear hK K
      try simp only [Act.put, List.setIfInBounds_toArray, List.set_cons_zero, List.set_cons_succ]
      refine wpAnyH_ready (rs := [12]) (by kernel_rfl) (by simp) ?_
      refine AllReadyH.cons (o := { dst := some 32, op := Op.call { callee := Callee.builtin Builtin.append, args := #[Operand.tmp 20, Operand.tmp 31], argTypes := #[83, 83] }, type := 83, pos := "tree.go:73", after := #[{ on := 0, ground := Ground.data }, { on := 11, ground := Ground.data }], guard := none }) rfl (fun K hK => ?_) AllReadyH.nil
      refine RE.step_put ES _ rfl (.tmp 20) (.tmp 31) rfl (base := w.heap.size + 1 + 1 + 1) A' 0 c' [] (some ⟨Z.heap.size, 0, none⟩) 1 1 [sp2] (by simp [Act.eval, Act.put]) (by simp [Act.eval, Act.put]) RW.out rfl (by omega) HZS.out rfl (by omega) RL.out ?_
      intro A2 c2 w3 r1 r2 r3
      have R1 := Lib.hid r1; have R2 := Lib.hid r2; have R3 := Lib.hid r3
      have BX3 := Lib.hid (boxed_chg BXA.out (chg_of_grown r2) (fun e => by have := (RW.out.fp_lt e).1; omega))
      have HS3 : Hid ((fun V : World => V.cell? ⟨w.heap.size, 2, none⟩ = some (KS kb) ∧ V.cell? ⟨kb, 0, none⟩ = some (.int .i64 2) ∧ V.cell? ⟨U.heap.size, 0, none⟩ = some E0 ∧ V.cell? ⟨U.heap.size, 1, none⟩ = some E0 ∧ V.cell? ⟨w.heap.size + 1, 0, none⟩ = some (.int .i64 1)) w3) := Lib.hid (HSG.out _ r2)
      clear r1 r2 r3
      refine hK.out _ _ ?_ (fun hHeld => ?_)
      · exact HS3.out
      clear HHeld; have HHeld := Lib.hid hHeld; clear hHeld
      clear hK K
      try simp only [Act.put, List.setIfInBounds_toArray, List.set_cons_zero, List.set_cons_succ]
      refine wpAnyH_ready (rs := [13]) (by kernel_rfl) (by simp) ?_
      refine AllReadyH.cons (o := { dst := none, op := Op.store 83 (Operand.tmp 5) (Operand.tmp 32), type := 0, pos := "tree.go:73", after := #[{ on := 12, ground := Ground.data }, { on := 12, ground := Ground.chain }, { on := 0, ground := Ground.phase }, { on := 1, ground := Ground.phase }, { on := 2, ground := Ground.phase }, { on := 3, ground := Ground.phase }, { on := 4, ground := Ground.phase }, { on := 5, ground := Ground.phase }, { on := 6, ground := Ground.phase }, { on := 7, ground := Ground.phase }, { on := 8, ground := Ground.phase }, { on := 9, ground := Ground.phase }, { on := 10, ground := Ground.phase }, { on := 11, ground := Ground.phase }, { on := 12, ground := Ground.phase }], guard := none }) rfl (fun K hK => ?_) AllReadyH.nil
      have cz := BX3.out.cell; have fz := BX3.out.frozen
      go_simp
      refine hK.out _ _ ?_ (fun hHeld => ?_)
      · exact HSG3.out _ _ HS3.out
      clear HHeld; have HHeld := Lib.hid hHeld; clear hHeld
      clear hK K
      try simp only [Act.put, List.setIfInBounds_toArray, List.set_cons_zero, List.set_cons_succ]
      refine wpAnyH_done (by kernel_rfl) ?_ _
      refine calm_normal ?_
      first | exact HFIN.out _ _ _ R1.out R2.out R3.out BX3.out | (gi_wp2; exact HFIN.out _ _ _ R1.out R2.out R3.out BX3.out)
  · rintro B D U hB hD hgr hch ⟨A', c', rfl, hbx, hrow⟩ hK
    have hb3 := hbx.cell
    have bU : Below w.heap.size w U := B1H.out.trans (hch.below (fun g (hg : g = _) => by omega) (by omega))
    have BX := Lib.hid hbx
    have HRW : Hid (ES.Row U (w.heap.size + 1 + 1 + 1) A' [sp2] c') := Lib.hid hrow
    have HBU := Lib.hid bU
    have HKD := Lib.hid hK
    have HBD : Hid (∀ g, RE.fp A' c' = some g → g ≠ B) := Lib.hid (fun g e h => hD (.inr (h ▸ e)))
    have HBS : Hid (w.heap.size + 1 + 1 + 1 ≤ B) := Lib.hid (by omega)
    clear hgr hch hbx hrow hK bU hB hD
    gi_wp2_with (first
      | (refine ⟨trivial, ?_⟩; gi_at_call 70; refine (callsIn_wide.2 (rev1 _ _ _)).mono ?_; rintro e w3 ⟨⟨v, rfl⟩, b3⟩; have B3H := Lib.hid b3; have hb4 := (boxed_later BX.out b3).cell; clear b3)
      | fail)
    have cP : Chg (fun g => g = B) w3 (w3.putObj B (.deferred none)) := Chg.put (D := fun g => g = B) _ _ rfl
    have bW := bel_trans HBU.out B3H.out
    exact ⟨by simp, .inl ⟨_, _, rfl, run_takeDeferred (keep_bel B3H.out HKD.out), .slice A' 1 c', by simp [results, Try.results59, go_sem], A', c', rfl, ((HRW.out.later B3H.out).base (by omega)).chg cP (fun g e h => HBD.out g e h), bW.trans (cP.below (fun g (hg : g = B) => by have := HBS.out; omega) bW.size)⟩⟩
  · rintro B c k D W _ _ _ _ _ h _
    exact h.elim
end Go.Proofs.Ytniffjjkjgfacaa
