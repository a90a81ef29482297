/- The document's numeral. -/
import Derived.Test.YtocbabckihcdmaaDoorV1
import Derived.Lib.SlBytesRow
namespace Go.Proofs.YtocbabckihcdmaaDoor
set_option linter.unusedSimpArgs false
open Go.RowKit Go.Maps
set_option linter.unusedVariables false
def dc (d : Nat) : UInt8 := UInt8.ofNat (48 + d)
theorem conv_one (d : Nat) (hd : d < 10) (g : Nat) (W : World) (z : W.heap[g]? = some (.cells #[.int .u8 (48 + (d : Int))] 5)) : (convert 44 9 (.slice (some ⟨g, 0, none⟩) 1 1)).run Tryd.prog W = .ok (.string ⟨#[dc d]⟩) W := by
  refine Lib.run_convert_whole (P := Tryd.prog) W 44 5 9 Tryd.underlying44 Tryd.underlying5 Tryd.underlying9 g 0 ⟨#[dc d]⟩ ?_ 1
  intro j hj
  have e : (⟨#[dc d]⟩ : ByteArray).size = 1 := rfl
  obtain rfl : j = 0 := by omega
  have h := cells1 z
  have e2 : (dc d).toNat = 48 + d := by unfold dc; rw [UInt8.toNat_ofNat']; omega
  show W.cell? ⟨g, 0 + 0, none⟩ = some (.int .u8 ((dc d).toNat : Int))
  rw [e2]
  simpa using h
set_option maxRecDepth 100000 in
set_option maxHeartbeats 2000000 in
theorem number_small (u : Nat) (h : u < 10) (w : World) :
    Calls Tryd.prog 27 #[.int .i64 u] w fun e w' => e = .returned (.string ⟨(Lib.decDigits u).toArray⟩) ∧ Below w.heap.size w w' := by
  have h1 : (u : Int) < 10 := by omega
  have h2 : IntKind.i64.wrap (48 + (u : Int)) = 48 + u := IntWalk.i64_in _ (by omega)
  have h3 : IntKind.u8.wrap (48 + (u : Int)) = 48 + u := by rw [IntKind.wrap_u8]; omega
  have RL := Lib.hid (alb w (.cells #[.int .u8 (48 + u)] 5))
  have z := heap_alloc_new w (.cells #[.int .u8 (48 + u)] 5)
  have cv := conv_one u h _ _ z
  have HE : Hid ((⟨(Lib.decDigits u).toArray⟩ : ByteArray) = ⟨#[dc u]⟩) := Lib.hid (by rw [Lib.decDigits_one h]; rfl)
  clear h z
  go_enter Tryd.func27, Tryd.ntmps27
  go_wp2
  go_ret
  exact ⟨by rw [HE.out]; rfl, RL.out⟩
theorem dd_len : ∀ u : Nat, (Lib.decDigits u).length ≤ u + 1 := by
  intro u
  induction u using Nat.strongRecOn with
  | _ u ih =>
    rw [Lib.decDigits]
    split
    · simp
    · rename_i h
      rw [List.length_append]
      have := ih (u / 10) (by omega)
      simp only [List.length_singleton]
      omega
set_option maxRecDepth 100000 in
set_option maxHeartbeats 2000000 in
theorem number_step (u : Nat) (h : ¬ u < 10) (hu : u ≤ 1099511627776) (w : World)
    (IH : ∀ W, Calls Tryd.prog 27 #[.int .i64 ((u / 10 : Nat) : Int)] W fun e w' => e = .returned (.string ⟨(Lib.decDigits (u / 10)).toArray⟩) ∧ Below W.heap.size W w') :
    Calls Tryd.prog 27 #[.int .i64 u] w fun e w' => e = .returned (.string ⟨(Lib.decDigits u).toArray⟩) ∧ Below w.heap.size w w' := by
  have HI := Lib.hid IH
  obtain ⟨q, hq⟩ : ∃ q, u / 10 = q := ⟨_, rfl⟩
  obtain ⟨r, hr⟩ : ∃ r, u % 10 = r := ⟨_, rfl⟩
  have h1 : ¬ (u : Int) < 10 := by omega
  have t1 : Int.tdiv (u : Int) 10 = (q : Int) := by rw [Int.tdiv_eq_ediv_of_nonneg (by omega)]; omega
  have t2 : Int.tmod (u : Int) 10 = (r : Int) := by rw [Int.tmod_eq_emod_of_nonneg (by omega)]; omega
  have hr9 : r < 10 := by omega
  have h0 : IntKind.i64.wrap (q : Int) = q := IntWalk.i64_in _ (by omega)
  have h00 : IntKind.i64.wrap (r : Int) = r := IntWalk.i64_in _ (by omega)
  have h2 : IntKind.i64.wrap (48 + (r : Int)) = 48 + r := IntWalk.i64_in _ (by omega)
  have h3 : IntKind.u8.wrap (48 + (r : Int)) = 48 + r := by rw [IntKind.wrap_u8]; omega
  have HE : Hid ((⟨(Lib.decDigits u).toArray⟩ : ByteArray) = ⟨(Lib.decDigits q).toArray⟩ ++ ⟨#[dc r]⟩) := Lib.hid (by
    apply Go.WideShapes.bytes_inj
    rw [Lib.decDigits, dif_neg h, hq, hr]
    simp [dc, ByteArray.data_append])
  have HR9 := Lib.hid hr9
  have hlim : ¬ 9223372036854775807 < (Lib.decDigits q).length + 1 := by have := dd_len q; omega
  have HB0 : Hid (Below w.heap.size w w.drew) := Lib.hid (Below.refl _ _).drew
  rw [hq] at HI
  clear h hq hr hu IH hr9
  go_enter Tryd.func27, Tryd.ntmps27
  go_upto_region 3 with fail
  refine wp_region_held_drew (S := (fun _ : World => True)) (by kernel_rfl) ?_ (fun hHeld => ?_)
  · trivial
  have HHeld := Lib.hid hHeld; clear hHeld
  refine wpAnyH_take (i := 0) (oi := { dst := some 10, op := Op.move (Operand.tmp 0), type := 3, pos := "ref.go:20", after := #[], guard := none }) (v := ?_) rfl (by kernel_rfl) (by kernel_rfl) (by kernel_rfl) (fun _ _ _ h => h) (Or.inl ⟨by rfl, ?_⟩) HHeld.out ?_
  rotate_left
  · intro w hSw; clear hSw; go_simp; try with_reducible rfl
  try simp only [Act.put, List.setIfInBounds_toArray, List.set_cons_zero, List.set_cons_succ]
  refine wpAnyH_take (i := 1) (oi := { dst := some 11, op := Op.binOp BinOp.quo 3 (Operand.tmp 10) (Operand.const (Value.int IntKind.i64 10)) 3, type := 3, pos := "ref.go:20", after := #[{ on := 0, ground := Ground.data }], guard := none }) (v := ?_) rfl (by kernel_rfl) (by kernel_rfl) (by kernel_rfl) (fun _ _ _ h => h) (Or.inl ⟨by rfl, ?_⟩) HHeld.out ?_
  rotate_left
  · intro w hSw; clear hSw; go_simp; try with_reducible rfl
  try simp only [Act.put, List.setIfInBounds_toArray, List.set_cons_zero, List.set_cons_succ]
  refine wpAnyH_take (i := 3) (oi := { dst := some 13, op := Op.move (Operand.tmp 0), type := 3, pos := "ref.go:20", after := #[], guard := none }) (v := ?_) rfl (by kernel_rfl) (by kernel_rfl) (by kernel_rfl) (fun _ _ _ h => h) (Or.inl ⟨by rfl, ?_⟩) HHeld.out ?_
  rotate_left
  · intro w hSw; clear hSw; go_simp; try with_reducible rfl
  try simp only [Act.put, List.setIfInBounds_toArray, List.set_cons_zero, List.set_cons_succ]
  refine wpAnyH_take (i := 4) (oi := { dst := some 14, op := Op.binOp BinOp.rem 3 (Operand.tmp 13) (Operand.const (Value.int IntKind.i64 10)) 3, type := 3, pos := "ref.go:20", after := #[{ on := 3, ground := Ground.data }], guard := none }) (v := ?_) rfl (by kernel_rfl) (by kernel_rfl) (by kernel_rfl) (fun _ _ _ h => h) (Or.inl ⟨by rfl, ?_⟩) HHeld.out ?_
  rotate_left
  · intro w hSw; clear hSw; go_simp; try with_reducible rfl
  try simp only [Act.put, List.setIfInBounds_toArray, List.set_cons_zero, List.set_cons_succ]
  refine wpAnyH_take (i := 5) (oi := { dst := some 15, op := Op.binOp BinOp.add 3 (Operand.const (Value.int IntKind.i64 48)) (Operand.tmp 14) 3, type := 3, pos := "ref.go:20", after := #[{ on := 4, ground := Ground.data }], guard := none }) (v := ?_) rfl (by kernel_rfl) (by kernel_rfl) (by kernel_rfl) (fun _ _ _ h => h) (Or.inl ⟨by rfl, ?_⟩) HHeld.out ?_
  rotate_left
  · intro w hSw; clear hSw; go_simp; try with_reducible rfl
  try simp only [Act.put, List.setIfInBounds_toArray, List.set_cons_zero, List.set_cons_succ]
  refine wpAnyH_take (i := 6) (oi := { dst := some 16, op := Op.convert 3 5 (Operand.tmp 15), type := 5, pos := "ref.go:20", after := #[{ on := 5, ground := Ground.data }], guard := none }) (v := ?_) rfl (by kernel_rfl) (by kernel_rfl) (by kernel_rfl) (fun _ _ _ h => h) (Or.inl ⟨by rfl, ?_⟩) HHeld.out ?_
  rotate_left
  · intro w hSw; clear hSw; go_simp; try with_reducible rfl
  try simp only [Act.put, List.setIfInBounds_toArray, List.set_cons_zero, List.set_cons_succ]
  refine wpAnyH_ready (rs := [2, 7]) (by kernel_rfl) (by simp) ?_
  refine AllReadyH.cons (o := { dst := some 12, op := Op.call { callee := Callee.value (Operand.func 27), args := #[Operand.tmp 11], argTypes := #[3] }, type := 9, pos := "ref.go:20", after := #[{ on := 1, ground := Ground.data }], guard := none }) rfl (fun K hK => ?_) (AllReadyH.cons (o := { dst := some 17, op := Op.buildSlice 44 1 #[(0, Operand.tmp 16)], type := 44, pos := "ref.go:20", after := #[{ on := 6, ground := Ground.data }], guard := none }) rfl (fun K hK => ?_) AllReadyH.nil)
  · go_simp
    go_at_call 27; ((refine (HI.out _).mono ?_); rintro e w2 ⟨rfl, bb⟩; have B2 := Lib.hid (bel_trans HB0.out bb); clear bb)
    refine hK.out _ _ ?_ (fun hHeld => ?_)
    · trivial
    clear HHeld; have HHeld := Lib.hid hHeld; clear hHeld
    clear hK K
    try simp only [Act.put, List.setIfInBounds_toArray, List.set_cons_zero, List.set_cons_succ]
    refine wpAnyH_ready (rs := [7]) (by kernel_rfl) (by simp) ?_
    refine AllReadyH.cons (o := { dst := some 17, op := Op.buildSlice 44 1 #[(0, Operand.tmp 16)], type := 44, pos := "ref.go:20", after := #[{ on := 6, ground := Ground.data }], guard := none }) rfl (fun K hK => ?_) AllReadyH.nil
    go_simp
    refine at_k (fun V7 hV7 => ?_)
    have Z7 := Lib.hid (show V7.heap[w2.heap.size]? = some (.cells #[.int .u8 (48 + (r : Int))] 5) by rw [hV7]; exact heap_alloc_new w2 _)
    have B7 := Lib.hid (show Below w.heap.size w V7 by rw [hV7]; exact bel_alloc B2.out _)
    clear hV7
    refine hK.out _ _ ?_ (fun hHeld => ?_)
    · trivial
    clear HHeld; have HHeld := Lib.hid hHeld; clear hHeld
    clear hK K
    try simp only [Act.put, List.setIfInBounds_toArray, List.set_cons_zero, List.set_cons_succ]
    refine wpAnyH_ready (rs := [8]) (by kernel_rfl) (by simp) ?_
    refine AllReadyH.cons (o := { dst := some 18, op := Op.convert 44 9 (Operand.tmp 17), type := 9, pos := "ref.go:20", after := #[{ on := 7, ground := Ground.data }], guard := none }) rfl (fun K hK => ?_) AllReadyH.nil
    have cv := conv_one r HR9.out _ _ Z7.out
    try simp only [World.drew] at cv
    go_simp
    clear cv
    refine hK.out _ _ ?_ (fun hHeld => ?_)
    · trivial
    clear HHeld; have HHeld := Lib.hid hHeld; clear hHeld
    clear hK K
    try simp only [Act.put, List.setIfInBounds_toArray, List.set_cons_zero, List.set_cons_succ]
    refine wpAnyH_take (i := 9) (oi := { dst := some 19, op := Op.binOp BinOp.add 9 (Operand.tmp 12) (Operand.tmp 18) 9, type := 9, pos := "ref.go:20", after := #[{ on := 2, ground := Ground.data }, { on := 8, ground := Ground.data }], guard := none }) (v := ?_) rfl (by kernel_rfl) (by kernel_rfl) (by kernel_rfl) (fun _ _ _ h => h) (Or.inl ⟨by rfl, ?_⟩) HHeld.out ?_
    rotate_left
    · intro w hSw; clear hSw; go_simp; try with_reducible rfl
    try simp only [Act.put, List.setIfInBounds_toArray, List.set_cons_zero, List.set_cons_succ]
    refine wpAnyH_take (i := 10) (oi := { dst := some 2, op := Op.assign (Operand.tmp 19), type := 9, pos := "ref.go:20", after := #[{ on := 9, ground := Ground.data }, { on := 2, ground := Ground.chain }, { on := 0, ground := Ground.phase }, { on := 1, ground := Ground.phase }, { on := 2, ground := Ground.phase }, { on := 3, ground := Ground.phase }, { on := 4, ground := Ground.phase }, { on := 5, ground := Ground.phase }, { on := 6, ground := Ground.phase }, { on := 7, ground := Ground.phase }, { on := 8, ground := Ground.phase }, { on := 9, ground := Ground.phase }], guard := none }) (v := ?_) rfl (by kernel_rfl) (by kernel_rfl) (by kernel_rfl) (fun _ _ _ h => h) (Or.inl ⟨by rfl, ?_⟩) HHeld.out ?_
    rotate_left
    · intro w hSw; clear hSw; go_simp; try with_reducible rfl
    try simp only [Act.put, List.setIfInBounds_toArray, List.set_cons_zero, List.set_cons_succ]
    refine wpAnyH_done (by kernel_rfl) ?_ _
    clear HHeld
    go_wp2
    refine bodyPost_ret (v := .string (⟨(Lib.decDigits q).toArray⟩ ++ ⟨#[dc r]⟩)) (by simp [results, Tryd.results27, go_sem]) rfl ⟨by rw [HE.out], B7.out⟩
  · go_simp
    refine at_k (fun V7 hV7 => ?_)
    have Z7 := Lib.hid (show V7.heap[w.drew.heap.size]? = some (.cells #[.int .u8 (48 + (r : Int))] 5) by rw [hV7]; exact heap_alloc_new w.drew _)
    have B7 := Lib.hid (show Below w.heap.size w V7 by rw [hV7]; exact bel_alloc HB0.out _)
    clear hV7
    refine hK.out _ _ ?_ (fun hHeld => ?_)
    · trivial
    clear HHeld; have HHeld := Lib.hid hHeld; clear hHeld
    clear hK K
    try simp only [Act.put, List.setIfInBounds_toArray, List.set_cons_zero, List.set_cons_succ]
    refine wpAnyH_ready (rs := [2, 8]) (by kernel_rfl) (by simp) ?_
    refine AllReadyH.cons (o := { dst := some 12, op := Op.call { callee := Callee.value (Operand.func 27), args := #[Operand.tmp 11], argTypes := #[3] }, type := 9, pos := "ref.go:20", after := #[{ on := 1, ground := Ground.data }], guard := none }) rfl (fun K hK => ?_) (AllReadyH.cons (o := { dst := some 18, op := Op.convert 44 9 (Operand.tmp 17), type := 9, pos := "ref.go:20", after := #[{ on := 7, ground := Ground.data }], guard := none }) rfl (fun K hK => ?_) AllReadyH.nil)
    · go_simp
      go_at_call 27; ((refine (HI.out _).mono ?_); rintro e w2 ⟨rfl, bb⟩; have B2 := Lib.hid (bel_trans B7.out bb); have Zc := Lib.hid (keep_bel bb Z7.out); clear bb)
      refine hK.out _ _ ?_ (fun hHeld => ?_)
      · trivial
      clear HHeld; have HHeld := Lib.hid hHeld; clear hHeld
      clear hK K
      try simp only [Act.put, List.setIfInBounds_toArray, List.set_cons_zero, List.set_cons_succ]
      refine wpAnyH_ready (rs := [8]) (by kernel_rfl) (by simp) ?_
      refine AllReadyH.cons (o := { dst := some 18, op := Op.convert 44 9 (Operand.tmp 17), type := 9, pos := "ref.go:20", after := #[{ on := 7, ground := Ground.data }], guard := none }) rfl (fun K hK => ?_) AllReadyH.nil
      have cv := conv_one r HR9.out _ _ Zc.out
      try simp only [World.drew] at cv
      go_simp
      clear cv
      refine hK.out _ _ ?_ (fun hHeld => ?_)
      · trivial
      clear HHeld; have HHeld := Lib.hid hHeld; clear hHeld
      clear hK K
      try simp only [Act.put, List.setIfInBounds_toArray, List.set_cons_zero, List.set_cons_succ]
      refine wpAnyH_take (i := 9) (oi := { dst := some 19, op := Op.binOp BinOp.add 9 (Operand.tmp 12) (Operand.tmp 18) 9, type := 9, pos := "ref.go:20", after := #[{ on := 2, ground := Ground.data }, { on := 8, ground := Ground.data }], guard := none }) (v := ?_) rfl (by kernel_rfl) (by kernel_rfl) (by kernel_rfl) (fun _ _ _ h => h) (Or.inl ⟨by rfl, ?_⟩) HHeld.out ?_
      rotate_left
      · intro w hSw; clear hSw; go_simp; try with_reducible rfl
      try simp only [Act.put, List.setIfInBounds_toArray, List.set_cons_zero, List.set_cons_succ]
      refine wpAnyH_take (i := 10) (oi := { dst := some 2, op := Op.assign (Operand.tmp 19), type := 9, pos := "ref.go:20", after := #[{ on := 9, ground := Ground.data }, { on := 2, ground := Ground.chain }, { on := 0, ground := Ground.phase }, { on := 1, ground := Ground.phase }, { on := 2, ground := Ground.phase }, { on := 3, ground := Ground.phase }, { on := 4, ground := Ground.phase }, { on := 5, ground := Ground.phase }, { on := 6, ground := Ground.phase }, { on := 7, ground := Ground.phase }, { on := 8, ground := Ground.phase }, { on := 9, ground := Ground.phase }], guard := none }) (v := ?_) rfl (by kernel_rfl) (by kernel_rfl) (by kernel_rfl) (fun _ _ _ h => h) (Or.inl ⟨by rfl, ?_⟩) HHeld.out ?_
      rotate_left
      · intro w hSw; clear hSw; go_simp; try with_reducible rfl
      try simp only [Act.put, List.setIfInBounds_toArray, List.set_cons_zero, List.set_cons_succ]
      refine wpAnyH_done (by kernel_rfl) ?_ _
      clear HHeld
      go_wp2
      refine bodyPost_ret (v := .string (⟨(Lib.decDigits q).toArray⟩ ++ ⟨#[dc r]⟩)) (by simp [results, Tryd.results27, go_sem]) rfl ⟨by rw [HE.out], B2.out⟩
    · have cv := conv_one r HR9.out _ _ Z7.out
      try simp only [World.drew] at cv
      go_simp
      clear cv
      refine hK.out _ _ ?_ (fun hHeld => ?_)
      · trivial
      clear HHeld; have HHeld := Lib.hid hHeld; clear hHeld
      clear hK K
      try simp only [Act.put, List.setIfInBounds_toArray, List.set_cons_zero, List.set_cons_succ]
      refine wpAnyH_ready (rs := [2]) (by kernel_rfl) (by simp) ?_
      refine AllReadyH.cons (o := { dst := some 12, op := Op.call { callee := Callee.value (Operand.func 27), args := #[Operand.tmp 11], argTypes := #[3] }, type := 9, pos := "ref.go:20", after := #[{ on := 1, ground := Ground.data }], guard := none }) rfl (fun K hK => ?_) AllReadyH.nil
      go_simp
      go_at_call 27; ((refine (HI.out _).mono ?_); rintro e w2 ⟨rfl, bb⟩; have B2 := Lib.hid (bel_trans B7.out bb); have Zc := Lib.hid (keep_bel bb Z7.out); clear bb)
      refine hK.out _ _ ?_ (fun hHeld => ?_)
      · trivial
      clear HHeld; have HHeld := Lib.hid hHeld; clear hHeld
      clear hK K
      try simp only [Act.put, List.setIfInBounds_toArray, List.set_cons_zero, List.set_cons_succ]
      refine wpAnyH_take (i := 9) (oi := { dst := some 19, op := Op.binOp BinOp.add 9 (Operand.tmp 12) (Operand.tmp 18) 9, type := 9, pos := "ref.go:20", after := #[{ on := 2, ground := Ground.data }, { on := 8, ground := Ground.data }], guard := none }) (v := ?_) rfl (by kernel_rfl) (by kernel_rfl) (by kernel_rfl) (fun _ _ _ h => h) (Or.inl ⟨by rfl, ?_⟩) HHeld.out ?_
      rotate_left
      · intro w hSw; clear hSw; go_simp; try with_reducible rfl
      try simp only [Act.put, List.setIfInBounds_toArray, List.set_cons_zero, List.set_cons_succ]
      refine wpAnyH_take (i := 10) (oi := { dst := some 2, op := Op.assign (Operand.tmp 19), type := 9, pos := "ref.go:20", after := #[{ on := 9, ground := Ground.data }, { on := 2, ground := Ground.chain }, { on := 0, ground := Ground.phase }, { on := 1, ground := Ground.phase }, { on := 2, ground := Ground.phase }, { on := 3, ground := Ground.phase }, { on := 4, ground := Ground.phase }, { on := 5, ground := Ground.phase }, { on := 6, ground := Ground.phase }, { on := 7, ground := Ground.phase }, { on := 8, ground := Ground.phase }, { on := 9, ground := Ground.phase }], guard := none }) (v := ?_) rfl (by kernel_rfl) (by kernel_rfl) (by kernel_rfl) (fun _ _ _ h => h) (Or.inl ⟨by rfl, ?_⟩) HHeld.out ?_
      rotate_left
      · intro w hSw; clear hSw; go_simp; try with_reducible rfl
      try simp only [Act.put, List.setIfInBounds_toArray, List.set_cons_zero, List.set_cons_succ]
      refine wpAnyH_done (by kernel_rfl) ?_ _
      clear HHeld
      go_wp2
      refine bodyPost_ret (v := .string (⟨(Lib.decDigits q).toArray⟩ ++ ⟨#[dc r]⟩)) (by simp [results, Tryd.results27, go_sem]) rfl ⟨by rw [HE.out], B2.out⟩
end Go.Proofs.YtocbabckihcdmaaDoor
