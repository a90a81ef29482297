/- Texts of the proof, one behind the other. -/
import Derived.Test.YtdebedeebmmleaaGreatDoorTc01
import Derived.Test.YtdebedeebmmleaaGreatDoorTc29
import Derived.Test.YtdebedeebmmleaaGreatDoorTc05
import Derived.Lib.SlBytesRow
import Derived.Test.YtdebedeebmmleaaGreatDoorTc20
set_option linter.unusedVariables false
set_option linter.unusedSimpArgs false
namespace Go.Proofs.YtdebedeebmmleaaGreatDoor
open Go.RowKit Go.Maps
def dc (d : Nat) : UInt8 := UInt8.ofNat (48 + d)
theorem dc_hex {d : Nat} (h : d < 10) : (⟨#[dc d]⟩ : ByteArray) = hexB d := by unfold dc hexB; rw [hexd_dig d h]
theorem conv_one (d : Nat) (hd : d < 10) (g : Nat) (W : World) (z : W.heap[g]? = some (.cells #[.int .u8 (48 + (d : Int))] 5)) : (convert 47 9 (.slice (some ⟨g, 0, none⟩) 1 1)).run Tryz.prog W = .ok (.string ⟨#[dc d]⟩) W := by
  refine Lib.run_convert_whole (P := Tryz.prog) W 47 5 9 Tryz.underlying47 Tryz.underlying5 Tryz.underlying9 g 0 ⟨#[dc d]⟩ ?_ 1
  intro j hj
  have e : (⟨#[dc d]⟩ : ByteArray).size = 1 := rfl
  obtain rfl : j = 0 := by omega
  have h : W.cell? ⟨g, 0, none⟩ = some (.int .u8 (48 + (d : Int))) := cellh z rfl
  have e2 : (dc d).toNat = 48 + d := by unfold dc; rw [UInt8.toNat_ofNat']; omega
  show W.cell? ⟨g, 0 + 0, none⟩ = some (.int .u8 ((dc d).toNat : Int))
  rw [e2]
  simpa using h
set_option maxRecDepth 100000 in
set_option maxHeartbeats 2000000 in
theorem tag_small (u : Nat) (h : u < 10) (w : World) :
    Calls Tryz.prog 70 #[.int .i64 u] w fun e w' => e = .returned (.tuple #[.string (utoaB u), .bool true]) ∧ Below w.heap.size w w' := by
  have h1 : (u : Int) < 10 := by omega
  have h01 : ¬ (u : Int) < 0 := by omega
  have h02 : ¬ (u : Int) < -1099511627776 := by omega
  have h03 : ¬ (1099511627776 : Int) < (u : Int) := by omega
  have h2 : IntKind.i64.wrap (48 + (u : Int)) = 48 + u := IntWalk.i64_in _ (by omega)
  have h3 : IntKind.u8.wrap (48 + (u : Int)) = 48 + u := by rw [IntKind.wrap_u8]; omega
  have RL := Lib.hid (alb w (.cells #[.int .u8 (48 + u)] 5))
  have z := heap_alloc_new w (.cells #[.int .u8 (48 + u)] 5)
  have cv := conv_one u h _ _ z
  have HE : Hid (utoaB u = ⟨#[dc u]⟩) := Lib.hid (by rw [utoa_lo h, dc_hex h])
  clear h z
  go_enter Tryz.func70, Tryz.ntmps70
  go_wp2
  refine bodyPost_ret (v := .tuple #[.string ⟨#[dc u]⟩, .bool true]) (by simp [results, Tryz.results70, go_sem]) rfl ⟨by rw [HE.out], RL.out⟩
set_option maxRecDepth 100000 in
set_option maxHeartbeats 2000000 in
theorem tag_step (u : Nat) (h : ¬ u < 10) (hu : u ≤ 1099511627776) (w : World)
    (IH : ∀ W, Calls Tryz.prog 70 #[.int .i64 ((u / 10 : Nat) : Int)] W fun e w' => e = .returned (.tuple #[.string (utoaB (u / 10)), .bool true]) ∧ Below W.heap.size W w') :
    Calls Tryz.prog 70 #[.int .i64 u] w fun e w' => e = .returned (.tuple #[.string (utoaB u), .bool true]) ∧ Below w.heap.size w w' := by
  have HI := Lib.hid IH
  obtain ⟨q, hq⟩ : ∃ q, u / 10 = q := ⟨_, rfl⟩
  obtain ⟨r, hr⟩ : ∃ r, u % 10 = r := ⟨_, rfl⟩
  have h1 : ¬ (u : Int) < 10 := by omega
  have h01 : ¬ (u : Int) < 0 := by omega
  have h02 : ¬ (u : Int) < -1099511627776 := by omega
  have h03 : ¬ (1099511627776 : Int) < (u : Int) := by omega
  have t1 : Int.tdiv (u : Int) 10 = (q : Int) := by rw [Int.tdiv_eq_ediv_of_nonneg (by omega)]; omega
  have t2 : Int.tmod (u : Int) 10 = (r : Int) := by rw [Int.tmod_eq_emod_of_nonneg (by omega)]; omega
  have hr9 : r < 10 := by omega
  have h0 : IntKind.i64.wrap (q : Int) = q := IntWalk.i64_in _ (by omega)
  have h00 : IntKind.i64.wrap (r : Int) = r := IntWalk.i64_in _ (by omega)
  have h2 : IntKind.i64.wrap (48 + (r : Int)) = 48 + r := IntWalk.i64_in _ (by omega)
  have h3 : IntKind.u8.wrap (48 + (r : Int)) = 48 + r := by rw [IntKind.wrap_u8]; omega
  have HE : Hid (utoaB u = utoaB q ++ ⟨#[dc r]⟩) := Lib.hid (by rw [utoa_hi h, hq, hr, dc_hex hr9])
  have HSZ : Hid ((utoaB q).size ≤ 20) := Lib.hid (utoa_size q (by omega))
  have HR9 := Lib.hid hr9
  rw [hq] at HI
  clear h hq hr hu IH hr9
  obtain ⟨P, hP⟩ : ∃ P, P = utoaB q := ⟨_, rfl⟩
  rw [← hP] at HI HE HSZ
  have hlim : ¬ 9223372036854775807 < P.size + 1 := by have := HSZ.out; omega
  clear hP
  go_enter Tryz.func70, Tryz.ntmps70
  go_upto_region 9 with (first
    | (go_at_call 70; ((with_reducible refine (HI.out _).mono ?_); rintro e w1 ⟨rfl, b1⟩; have B1 := Lib.hid b1; clear b1))
    | fail)
  have cv := conv_one r HR9.out _ _ (heap_alloc_new w1 (.cells #[.int .u8 (48 + (r : Int))] 5))
  have B2 := Lib.hid (bel_alloc B1.out (.cells #[.int .u8 (48 + (r : Int))] 5))
  go_wp2
  refine bodyPost_ret (v := .tuple #[.string (P ++ ⟨#[dc r]⟩), .bool true]) (by simp [results, Tryz.results70, go_sem]) rfl ⟨by rw [HE.out], B2.out⟩
theorem tag_nat (u : Nat) : ∀ (hu : u ≤ 1099511627776) (w : World), Calls Tryz.prog 70 #[.int .i64 u] w fun e w' => e = .returned (.tuple #[.string (utoaB u), .bool true]) ∧ Below w.heap.size w w' := by
  induction u using Nat.strongRecOn with
  | _ u ih =>
    intro hu w
    by_cases h : u < 10
    · exact tag_small u h w
    · exact tag_step u h hu w (fun W => ih (u / 10) (by omega) (by omega) W)
def inT (q : Int) : Bool := decide (-1099511627776 ≤ q) && decide (q ≤ 1099511627776)
def tagT (q : Int) : Value := if inT q = true then .tuple #[.string (itoaB q), .bool true] else .tuple #[.string ⟨#[]⟩, .bool false]
set_option maxRecDepth 100000 in
set_option maxHeartbeats 2000000 in
theorem tag_any (q : Int) (w : World) : Calls Tryz.prog 70 #[.int .i64 q] w fun e w' => e = .returned (tagT q) ∧ Below w.heap.size w w' := by
  unfold tagT inT
  by_cases h1 : -1099511627776 ≤ q
  · by_cases h2 : q ≤ 1099511627776
    · rw [if_pos (by simp [h1, h2])]
      by_cases h3 : q < 0
      · obtain ⟨u, rfl⟩ : ∃ u : Nat, q = -(u : Int) := ⟨q.natAbs, by omega⟩
        have e : itoaB (-(u : Int)) = ⟨#[45]⟩ ++ utoaB u := by
          refine ba_inj ?_
          rw [ba_app]
          unfold itoaB utoaB
          rw [ba_list, ba_list, Lib.itoa_neg u (by omega)]
          rfl
        rw [e]
        have HD := Lib.hid (tag_nat u (by omega))
        have HSZ := Lib.hid (utoa_size u (by omega))
        have w1 : IntKind.i64.wrap (u : Int) = (u : Int) := IntWalk.i64_in _ (by omega)
        obtain ⟨U, hU⟩ : ∃ U, U = utoaB u := ⟨_, rfl⟩
        rw [← hU] at HD HSZ ⊢
        have hcat : ¬ 9223372036854775807 < 1 + U.size := by have := HSZ.out; omega
        clear e hU
        go_enter Tryz.func70, Tryz.ntmps70
        go_wp2_with (first
          | (go_at_call 70; ((with_reducible refine (HD.out _).mono ?_); rintro e w1 ⟨rfl, b1⟩; have B1 := Lib.hid b1; clear b1))
          | fail)
        all_goals
          first
          | (exfalso; have := HSZ.out; omega)
          | (refine bodyPost_ret (v := .tuple #[.string (⟨#[45]⟩ ++ U), .bool true]) (by simp [results, Tryz.results70, go_sem]) rfl ⟨rfl, B1.out⟩)
      · obtain ⟨u, rfl⟩ : ∃ u : Nat, q = (u : Int) := ⟨q.toNat, by omega⟩
        have e : itoaB (u : Int) = utoaB u := by
          unfold itoaB utoaB
          rw [Lib.itoa_nonneg]
        rw [e]
        exact tag_nat u (by omega) w
    · rw [if_neg (by simp [h2])]
      have k2 : (1099511627776 : Int) < q := by omega
      have k1 : ¬ q < -1099511627776 := by omega
      go_enter Tryz.func70, Tryz.ntmps70
      go_wp2
      refine bodyPost_ret (v := .tuple #[.string ⟨#[]⟩, .bool false]) (by simp [results, Tryz.results70, go_sem]) rfl ⟨rfl, Below.refl _ _⟩
  · rw [if_neg (by simp [h1])]
    have k1 : q < -1099511627776 := by omega
    go_enter Tryz.func70, Tryz.ntmps70
    go_wp2
    refine bodyPost_ret (v := .tuple #[.string ⟨#[]⟩, .bool false]) (by simp [results, Tryz.results70, go_sem]) rfl ⟨rfl, Below.refl _ _⟩
set_option maxRecDepth 100000 in
set_option maxHeartbeats 2000000 in
theorem delta_small (u : Nat) (h : u < 10) (w : World) :
    Calls Tryz.prog 72 #[.int .u64 u] w fun e w' => e = .returned (.string (utoaB u)) ∧ Below w.heap.size w w' := by
  have h1 : (u : Int) < 10 := by omega
  have h2 : IntKind.u64.wrap (48 + (u : Int)) = 48 + u := by show (48 + (u : Int)) % 18446744073709551616 = _; omega
  have h22 : (48 + (u : Int)) % 18446744073709551616 = 48 + u := by omega
  have h3 : IntKind.u8.wrap (48 + (u : Int)) = 48 + u := by rw [IntKind.wrap_u8]; omega
  have h33 : (48 + (u : Int)) % 256 = 48 + u := by omega
  have RL := Lib.hid (alb w (.cells #[.int .u8 (48 + u)] 5))
  have z := heap_alloc_new w (.cells #[.int .u8 (48 + u)] 5)
  have cv := conv_one u h _ _ z
  have HE : Hid (utoaB u = ⟨#[dc u]⟩) := Lib.hid (by rw [utoa_lo h, dc_hex h])
  clear h z
  go_enter Tryz.func72, Tryz.ntmps72
  go_wp2
  go_ret
  exact ⟨by rw [HE.out]; try rfl, RL.out⟩
set_option maxRecDepth 100000 in
set_option maxHeartbeats 4000000 in
theorem delta_step (u : Nat) (h : ¬ u < 10) (hu : u ≤ 18446744073709551615) (w : World)
    (IH : ∀ W, Calls Tryz.prog 72 #[.int .u64 ((u / 10 : Nat) : Int)] W fun e w' => e = .returned (.string (utoaB (u / 10))) ∧ Below W.heap.size W w') :
    Calls Tryz.prog 72 #[.int .u64 u] w fun e w' => e = .returned (.string (utoaB u)) ∧ Below w.heap.size w w' := by
  have HI := Lib.hid IH
  obtain ⟨q, hq⟩ : ∃ q, u / 10 = q := ⟨_, rfl⟩
  obtain ⟨r, hr⟩ : ∃ r, u % 10 = r := ⟨_, rfl⟩
  have h1 : ¬ (u : Int) < 10 := by omega
  have t1 : Int.tdiv (u : Int) 10 = (q : Int) := by rw [Int.tdiv_eq_ediv_of_nonneg (by omega)]; omega
  have t2 : Int.tmod (u : Int) 10 = (r : Int) := by rw [Int.tmod_eq_emod_of_nonneg (by omega)]; omega
  have hr9 : r < 10 := by omega
  have h0 : IntKind.u64.wrap (q : Int) = q := by show (q : Int) % 18446744073709551616 = _; omega
  have h000 : (q : Int) % 18446744073709551616 = q := by omega
  have h00 : IntKind.u64.wrap (r : Int) = r := by show (r : Int) % 18446744073709551616 = _; omega
  have h001 : (r : Int) % 18446744073709551616 = r := by omega
  have h2 : IntKind.u64.wrap (48 + (r : Int)) = 48 + r := by show (48 + (r : Int)) % 18446744073709551616 = _; omega
  have h22 : (48 + (r : Int)) % 18446744073709551616 = 48 + r := by omega
  have h3 : IntKind.u8.wrap (48 + (r : Int)) = 48 + r := by rw [IntKind.wrap_u8]; omega
  have h33 : (48 + (r : Int)) % 256 = 48 + r := by omega
  have HE : Hid (utoaB u = utoaB q ++ ⟨#[dc r]⟩) := Lib.hid (by rw [utoa_hi h, hq, hr, dc_hex hr9])
  have HSZ : Hid ((utoaB q).size ≤ 20) := Lib.hid (utoa_size q (by omega))
  have HR9 := Lib.hid hr9
  rw [hq] at HI
  clear h hq hr hu IH hr9
  obtain ⟨P, hP⟩ : ∃ P, P = utoaB q := ⟨_, rfl⟩
  rw [← hP] at HI HE HSZ
  have hlim : ¬ 9223372036854775807 < P.size + 1 := by have := HSZ.out; omega
  clear hP
  go_enter Tryz.func72, Tryz.ntmps72
  go_upto_region 3 with fail
  refine wp_region_held_drew (S := fun _ : World => True) (by kernel_rfl) trivial (fun hHeld => ?_)
  clear hHeld
  refine wT (i := 0) (oi := { dst := some 10, op := Op.move (Operand.tmp 0), type := 71, pos := "ref.go:31", after := #[], guard := none }) (v := ?_) rfl (Or.inl ⟨by rfl, ?_⟩) trivial ?_
  rotate_left
  · intro w hSw; clear hSw; go_simp; try with_reducible rfl
  try simp only [pu, pn, s1, s2, s3]
  refine wT (i := 1) (oi := { dst := some 11, op := Op.binOp BinOp.quo 71 (Operand.tmp 10) (Operand.const (Value.int IntKind.u64 10)) 71, type := 71, pos := "ref.go:31", after := #[{ on := 0, ground := Ground.data }], guard := none }) (v := ?_) rfl (Or.inl ⟨by rfl, ?_⟩) trivial ?_
  rotate_left
  · intro w hSw; clear hSw; go_simp; try with_reducible rfl
  try simp only [pu, pn, s1, s2, s3]
  refine wT (i := 3) (oi := { dst := some 13, op := Op.move (Operand.tmp 0), type := 71, pos := "ref.go:31", after := #[], guard := none }) (v := ?_) rfl (Or.inl ⟨by rfl, ?_⟩) trivial ?_
  rotate_left
  · intro w hSw; clear hSw; go_simp; try with_reducible rfl
  try simp only [pu, pn, s1, s2, s3]
  refine wT (i := 4) (oi := { dst := some 14, op := Op.binOp BinOp.rem 71 (Operand.tmp 13) (Operand.const (Value.int IntKind.u64 10)) 71, type := 71, pos := "ref.go:31", after := #[{ on := 3, ground := Ground.data }], guard := none }) (v := ?_) rfl (Or.inl ⟨by rfl, ?_⟩) trivial ?_
  rotate_left
  · intro w hSw; clear hSw; go_simp; try with_reducible rfl
  try simp only [pu, pn, s1, s2, s3]
  refine wT (i := 5) (oi := { dst := some 15, op := Op.binOp BinOp.add 71 (Operand.const (Value.int IntKind.u64 48)) (Operand.tmp 14) 71, type := 71, pos := "ref.go:31", after := #[{ on := 4, ground := Ground.data }], guard := none }) (v := ?_) rfl (Or.inl ⟨by rfl, ?_⟩) trivial ?_
  rotate_left
  · intro w hSw; clear hSw; go_simp; try with_reducible rfl
  try simp only [pu, pn, s1, s2, s3]
  refine wT (i := 6) (oi := { dst := some 16, op := Op.convert 71 5 (Operand.tmp 15), type := 5, pos := "ref.go:31", after := #[{ on := 5, ground := Ground.data }], guard := none }) (v := ?_) rfl (Or.inl ⟨by rfl, ?_⟩) trivial ?_
  rotate_left
  · intro w hSw; clear hSw; go_simp; try with_reducible rfl
  try simp only [pu, pn, s1, s2, s3]
  refine wpAnyH_ready (rs := [2, 7]) (by kernel_rfl) (by simp) ?_
  refine (AllReadyH.cons (o := { dst := some 12, op := Op.call { callee := Callee.value (Operand.func 72), args := #[Operand.tmp 11], argTypes := #[71] }, type := 9, pos := "ref.go:31", after := #[{ on := 1, ground := Ground.data }], guard := none }) rfl (fun K hK => ?_) (AllReadyH.cons (o := { dst := some 17, op := Op.buildSlice 47 1 #[(0, Operand.tmp 16)], type := 47, pos := "ref.go:31", after := #[{ on := 6, ground := Ground.data }], guard := none }) rfl (fun K hK => ?_) AllReadyH.nil))
  · go_simp
    (go_at_call 72; ((refine (HI.out _).mono ?_); rintro e wc ⟨rfl, bb⟩; have BC := Lib.hid (bel_dr bb); clear bb))
    refine hK.out _ _ trivial (fun hHeld => ?_)
    clear hHeld hK K
    try simp only [pu, pn, s1, s2, s3]
    refine wpAnyH_ready (rs := [7]) (by kernel_rfl) (by simp) ?_
    refine (AllReadyH.cons (o := { dst := some 17, op := Op.buildSlice 47 1 #[(0, Operand.tmp 16)], type := 47, pos := "ref.go:31", after := #[{ on := 6, ground := Ground.data }], guard := none }) rfl (fun K hK => ?_) AllReadyH.nil)
    go_simp
    obtain ⟨wb, hwb⟩ : ∃ V, V = wc.alloc (.cells #[.int .u8 (48 + (r : Int))] 5) := ⟨_, rfl⟩
    have ZB := Lib.hid (show wb.heap[wc.heap.size]? = some (.cells #[.int .u8 (48 + (r : Int))] 5) by rw [hwb]; exact heap_alloc_new wc _)
    have BB := Lib.hid (show Below w.heap.size w wb by rw [hwb]; exact bel_alloc BC.out _)
    rw [← hwb]
    clear hwb
    refine hK.out _ _ trivial (fun hHeld => ?_)
    clear hHeld hK K
    try simp only [pu, pn, s1, s2, s3]
    refine wpAnyH_ready (rs := [8]) (by kernel_rfl) (by simp) ?_
    refine (AllReadyH.cons (o := { dst := some 18, op := Op.convert 47 9 (Operand.tmp 17), type := 9, pos := "ref.go:31", after := #[{ on := 7, ground := Ground.data }], guard := none }) rfl (fun K hK => ?_) AllReadyH.nil)
    have cv := conv_one r HR9.out _ _ ZB.out
    go_simp
    clear cv
    refine hK.out _ _ trivial (fun hHeld => ?_)
    clear hHeld hK K
    try simp only [pu, pn, s1, s2, s3]
    refine wT (i := 9) (oi := { dst := some 19, op := Op.binOp BinOp.add 9 (Operand.tmp 12) (Operand.tmp 18) 9, type := 9, pos := "ref.go:31", after := #[{ on := 2, ground := Ground.data }, { on := 8, ground := Ground.data }], guard := none }) (v := ?_) rfl (Or.inl ⟨by rfl, ?_⟩) trivial ?_
    rotate_left
    · intro w hSw; clear hSw; go_simp; try with_reducible rfl
    try simp only [pu, pn, s1, s2, s3]
    refine wT (i := 10) (oi := { dst := some 2, op := Op.assign (Operand.tmp 19), type := 9, pos := "ref.go:31", after := #[{ on := 9, ground := Ground.data }, { on := 2, ground := Ground.chain }, { on := 0, ground := Ground.phase }, { on := 1, ground := Ground.phase }, { on := 2, ground := Ground.phase }, { on := 3, ground := Ground.phase }, { on := 4, ground := Ground.phase }, { on := 5, ground := Ground.phase }, { on := 6, ground := Ground.phase }, { on := 7, ground := Ground.phase }, { on := 8, ground := Ground.phase }, { on := 9, ground := Ground.phase }], guard := none }) (v := ?_) rfl (Or.inl ⟨by rfl, ?_⟩) trivial ?_
    rotate_left
    · intro w hSw; clear hSw; go_simp; try with_reducible rfl
    try simp only [pu, pn, s1, s2, s3]
    refine wpAnyH_done (by kernel_rfl) ?_ _
    go_wp2
    go_ret
    exact ⟨by rw [HE.out]; try rfl, BB.out⟩
  · go_simp
    obtain ⟨wb, hwb⟩ : ∃ V, V = (w.alloc (.cells #[.int .u8 (48 + (r : Int))] 5)).drew := ⟨_, rfl⟩
    have ZB := Lib.hid (show wb.heap[w.heap.size]? = some (.cells #[.int .u8 (48 + (r : Int))] 5) by rw [hwb]; exact heap_alloc_new w _)
    have BB := Lib.hid (show Below w.heap.size w wb by rw [hwb]; exact (alb w _).drew)
    rw [← hwb]
    clear hwb
    refine hK.out _ _ trivial (fun hHeld => ?_)
    clear hHeld hK K
    try simp only [pu, pn, s1, s2, s3]
    refine wpAnyH_ready (rs := [2, 8]) (by kernel_rfl) (by simp) ?_
    refine (AllReadyH.cons (o := { dst := some 12, op := Op.call { callee := Callee.value (Operand.func 72), args := #[Operand.tmp 11], argTypes := #[71] }, type := 9, pos := "ref.go:31", after := #[{ on := 1, ground := Ground.data }], guard := none }) rfl (fun K hK => ?_) (AllReadyH.cons (o := { dst := some 18, op := Op.convert 47 9 (Operand.tmp 17), type := 9, pos := "ref.go:31", after := #[{ on := 7, ground := Ground.data }], guard := none }) rfl (fun K hK => ?_) AllReadyH.nil))
    · go_simp
      (go_at_call 72; ((refine (HI.out _).mono ?_); rintro e wc ⟨rfl, bb⟩; have BC := Lib.hid (bel_trans BB.out bb); have ZC := Lib.hid (keep_bel bb ZB.out); clear bb))
      refine hK.out _ _ trivial (fun hHeld => ?_)
      clear hHeld hK K
      try simp only [pu, pn, s1, s2, s3]
      refine wpAnyH_ready (rs := [8]) (by kernel_rfl) (by simp) ?_
      refine (AllReadyH.cons (o := { dst := some 18, op := Op.convert 47 9 (Operand.tmp 17), type := 9, pos := "ref.go:31", after := #[{ on := 7, ground := Ground.data }], guard := none }) rfl (fun K hK => ?_) AllReadyH.nil)
      have cv := conv_one r HR9.out _ _ ZC.out
      go_simp
      clear cv
      refine hK.out _ _ trivial (fun hHeld => ?_)
      clear hHeld hK K
      try simp only [pu, pn, s1, s2, s3]
      refine wT (i := 9) (oi := { dst := some 19, op := Op.binOp BinOp.add 9 (Operand.tmp 12) (Operand.tmp 18) 9, type := 9, pos := "ref.go:31", after := #[{ on := 2, ground := Ground.data }, { on := 8, ground := Ground.data }], guard := none }) (v := ?_) rfl (Or.inl ⟨by rfl, ?_⟩) trivial ?_
      rotate_left
      · intro w hSw; clear hSw; go_simp; try with_reducible rfl
      try simp only [pu, pn, s1, s2, s3]
      refine wT (i := 10) (oi := { dst := some 2, op := Op.assign (Operand.tmp 19), type := 9, pos := "ref.go:31", after := #[{ on := 9, ground := Ground.data }, { on := 2, ground := Ground.chain }, { on := 0, ground := Ground.phase }, { on := 1, ground := Ground.phase }, { on := 2, ground := Ground.phase }, { on := 3, ground := Ground.phase }, { on := 4, ground := Ground.phase }, { on := 5, ground := Ground.phase }, { on := 6, ground := Ground.phase }, { on := 7, ground := Ground.phase }, { on := 8, ground := Ground.phase }, { on := 9, ground := Ground.phase }], guard := none }) (v := ?_) rfl (Or.inl ⟨by rfl, ?_⟩) trivial ?_
      rotate_left
      · intro w hSw; clear hSw; go_simp; try with_reducible rfl
      try simp only [pu, pn, s1, s2, s3]
      refine wpAnyH_done (by kernel_rfl) ?_ _
      go_wp2
      go_ret
      exact ⟨by rw [HE.out]; try rfl, BC.out⟩
    · have cv := conv_one r HR9.out _ _ ZB.out
      go_simp
      clear cv
      refine hK.out _ _ trivial (fun hHeld => ?_)
      clear hHeld hK K
      try simp only [pu, pn, s1, s2, s3]
      refine wpAnyH_ready (rs := [2]) (by kernel_rfl) (by simp) ?_
      refine (AllReadyH.cons (o := { dst := some 12, op := Op.call { callee := Callee.value (Operand.func 72), args := #[Operand.tmp 11], argTypes := #[71] }, type := 9, pos := "ref.go:31", after := #[{ on := 1, ground := Ground.data }], guard := none }) rfl (fun K hK => ?_) AllReadyH.nil)
      go_simp
      (go_at_call 72; ((refine (HI.out _).mono ?_); rintro e wc ⟨rfl, bb⟩; have BC := Lib.hid (bel_trans BB.out bb); have ZC := Lib.hid (keep_bel bb ZB.out); clear bb))
      refine hK.out _ _ trivial (fun hHeld => ?_)
      clear hHeld hK K
      try simp only [pu, pn, s1, s2, s3]
      refine wT (i := 9) (oi := { dst := some 19, op := Op.binOp BinOp.add 9 (Operand.tmp 12) (Operand.tmp 18) 9, type := 9, pos := "ref.go:31", after := #[{ on := 2, ground := Ground.data }, { on := 8, ground := Ground.data }], guard := none }) (v := ?_) rfl (Or.inl ⟨by rfl, ?_⟩) trivial ?_
      rotate_left
      · intro w hSw; clear hSw; go_simp; try with_reducible rfl
      try simp only [pu, pn, s1, s2, s3]
      refine wT (i := 10) (oi := { dst := some 2, op := Op.assign (Operand.tmp 19), type := 9, pos := "ref.go:31", after := #[{ on := 9, ground := Ground.data }, { on := 2, ground := Ground.chain }, { on := 0, ground := Ground.phase }, { on := 1, ground := Ground.phase }, { on := 2, ground := Ground.phase }, { on := 3, ground := Ground.phase }, { on := 4, ground := Ground.phase }, { on := 5, ground := Ground.phase }, { on := 6, ground := Ground.phase }, { on := 7, ground := Ground.phase }, { on := 8, ground := Ground.phase }, { on := 9, ground := Ground.phase }], guard := none }) (v := ?_) rfl (Or.inl ⟨by rfl, ?_⟩) trivial ?_
      rotate_left
      · intro w hSw; clear hSw; go_simp; try with_reducible rfl
      try simp only [pu, pn, s1, s2, s3]
      refine wpAnyH_done (by kernel_rfl) ?_ _
      go_wp2
      go_ret
      exact ⟨by rw [HE.out]; try rfl, BC.out⟩
theorem delta_any (u : Nat) : ∀ (hu : u ≤ 18446744073709551615) (w : World), Calls Tryz.prog 72 #[.int .u64 u] w fun e w' => e = .returned (.string (utoaB u)) ∧ Below w.heap.size w w' := by
  induction u using Nat.strongRecOn with
  | _ u ih =>
    intro hu w
    by_cases h : u < 10
    · exact delta_small u h w
    · exact delta_step u h hu w (fun W => ih (u / 10) (by omega) (by omega) W)
end Go.Proofs.YtdebedeebmmleaaGreatDoor
namespace Go.Proofs.YtdebedeebmmleaaGreatDoor

theorem bl_irr : ∀ x : List UInt8, Op.bytesLess x x = false
  | [] => rfl
  | a :: x => by simp [Op.bytesLess, bl_irr x, UInt8.lt_iff_toNat_lt]

theorem bl_tri : ∀ x y : List UInt8, Op.bytesLess x y = true ∨ x = y ∨ Op.bytesLess y x = true
  | [], [] => .inr (.inl rfl)
  | [], _ :: _ => .inl rfl
  | _ :: _, [] => .inr (.inr rfl)
  | a :: x, b :: y => by
    rcases Nat.lt_trichotomy a.toNat b.toNat with h | h | h
    · left; simp [Op.bytesLess, UInt8.lt_iff_toNat_lt, h]
    · have e : a = b := UInt8.toNat_inj.1 h
      subst e
      rcases bl_tri x y with k | k | k
      · left; simp [Op.bytesLess, k]
      · right; left; rw [k]
      · right; right; simp [Op.bytesLess, k]
    · right; right; simp [Op.bytesLess, UInt8.lt_iff_toNat_lt, h]

theorem bl_trans : ∀ x y z : List UInt8, Op.bytesLess x y = true → Op.bytesLess y z = true → Op.bytesLess x z = true
  | _, [], _ => by simp [Op.bytesLess]
  | _, _ :: _, [] => by simp [Op.bytesLess]
  | [], _ :: _, _ :: _ => by simp [Op.bytesLess]
  | a :: x, b :: y, c :: z => by
    intro h k
    simp only [Op.bytesLess, Bool.or_eq_true, decide_eq_true_eq, Bool.and_eq_true, beq_iff_eq, UInt8.lt_iff_toNat_lt] at h k ⊢
    rcases h with h | ⟨rfl, h⟩
    · rcases k with k | ⟨rfl, k⟩
      · left; omega
      · left; exact h
    · rcases k with k | ⟨rfl, k⟩
      · left; exact k
      · right; exact ⟨rfl, bl_trans x y z h k⟩

theorem bl_asymm (x y : List UInt8) (h : Op.bytesLess x y = true) : Op.bytesLess y x = false := by
  cases k : Op.bytesLess y x with
  | false => rfl
  | true => have := bl_trans _ _ _ h k; rw [bl_irr] at this; cases this

theorem bl_le (x y : List UInt8) : (Op.bytesLess x y || x == y) = !Op.bytesLess y x := by
  rcases bl_tri x y with h | h | h
  · rw [h, bl_asymm _ _ h]; rfl
  · subst h; simp [bl_irr]
  · rw [bl_asymm _ _ h, h]
    have : (x == y) = false := by
      cases k : x == y with
      | false => rfl
      | true => rw [beq_iff_eq] at k; subst k; rw [bl_irr] at h; cases h
    rw [this]; rfl

theorem bl_ge (x y : List UInt8) : (Op.bytesLess x y = true ∨ (x == y) = true) ↔ Op.bytesLess y x = false := by
  have h := bl_le x y
  rw [← Bool.or_eq_true, h]; simp
theorem bl_gt (x y : List UInt8) : (Op.bytesLess x y = false ∧ (x == y) = false) ↔ Op.bytesLess y x = true := by
  have h := bl_le x y
  rw [← Bool.or_eq_false_iff, h]; simp
end Go.Proofs.YtdebedeebmmleaaGreatDoor
namespace Go.Proofs.YtdebedeebmmleaaGreatDoor
open Go.RowKit

def ptB (k : Int) : Bool := decide (1 ≤ k) && decide (k ≤ 3)
theorem ret_eq {a b : Int} (h : b = a) : Ending.returned (.int .i64 a) = Ending.returned (.int .i64 b) := by rw [h]
theorem retB_eq {a b : Bool} (h : b = a) : Ending.returned (.bool a) = Ending.returned (.bool b) := by rw [h]
theorem sz0 {s : ByteArray} (h : s.toList = []) : (s.size : Int) = 0 := by
  have : s = ⟨#[]⟩ := bytes_inj (by rw [h, ByteArray.toList_eq])
  subst this; rfl
theorem m4_bad {dl a0 a1 : Int} {key too val : ByteArray} (h1 : val.toList = []) (h2 : dl = 0) (h3 : (key.size : Int) ≤ a0) (h4 : (too.size : Int) ≤ a0) (h5 : ¬too.toList = [])
    (h6 : (!too.toList.isEmpty) = true ∧ (Op.bytesLess too.toList key.toList = true ∨ (too.toList == key.toList) = true)) : mF 4 dl a0 a1 key too val = 7 := by
  have h := (bl_ge _ _).1 h6.2
  have hs : sbS key too = false := by simp [sbS, emp, ltS, h, h5]
  simp [mF, h1, h2, hs]
  omega
theorem m4_ok {dl a0 a1 : Int} {key too val : ByteArray} (h1 : val.toList = []) (h2 : dl = 0) (h3 : (key.size : Int) ≤ a0) (h4 : (too.size : Int) ≤ a0) (h5 : ¬too.toList = [])
    (h6 : (!too.toList.isEmpty) = false ∨ Op.bytesLess too.toList key.toList = false ∧ (too.toList == key.toList) = false) : mF 4 dl a0 a1 key too val = 0 := by
  rcases h6 with h6 | h6
  · simp [h5] at h6
  have h := (bl_gt _ _).1 h6
  have hs : sbS key too = true := by simp [sbS, emp, ltS, h]
  simp [mF, h1, h2, hs]
  omega
theorem pt_any (k q dl : Int) (key too val : ByteArray) (w : World) :
    Calls Tryz.prog 89 #[.agg #[.int .u8 k, .int .i64 q, .string key, .string too, .string val, .int .u64 dl]] w fun e w' => e = .returned (.bool (ptB k)) ∧ Below w.heap.size w w' := by
  go_enter Tryz.func89, Tryz.ntmps89
  go_wp2
  all_goals
    go_ret
    refine ⟨?_, by go_grown⟩
    refine retB_eq ?_
    simp only [ptB]
    first
    | (simp_all; done)
    | (simp; omega)
set_option maxRecDepth 100000 in
set_option maxHeartbeats 4000000 in
theorem rmsg_1 (q dl a0 a1 a2 a3 a4 a5 a6 a7 a8 : Int) (key too val : ByteArray) (w : World) :
    Calls Tryz.prog 71 #[.agg #[.int .u8 1, .int .i64 q, .string key, .string too, .string val, .int .u64 dl], .agg #[.int .i64 a0, .int .i64 a1, .int .i64 a2, .int .i64 a3, .int .i64 a4, .int .i64 a5, .int .i64 a6, .int .i64 a7, .int .i64 a8]] w fun e w' => e = .returned (.int .i64 (mF 1 dl a0 a1 key too val)) ∧ Below w.heap.size w w' := by
  obtain ⟨r, hr⟩ : ∃ r, r = mF 1 dl a0 a1 key too val := ⟨_, rfl⟩
  rw [← hr]
  have HR := Lib.hid hr
  clear hr
  have C := Lib.hid (fun dl w => pt_any 1 q dl key too val w)
  go_enter Tryz.func71, Tryz.ntmps71
  go_wp2_with (go_at_call 89; refine (C.out _ _).mono ?_; rintro e w1 ⟨rfl, hb⟩; have b1 : Below w.heap.size w w1 := (Below.trans (by go_grown) (hb.mono (by simp; try omega))); have d0 := bel_later hb (b := w.heap.size) (o := 0) (by simp [go_sem]; rfl); have d2 := bel_later hb (b := w.heap.size) (o := 2) (by simp [go_sem]; rfl); have d3 := bel_later hb (b := w.heap.size) (o := 3) (by simp [go_sem]; rfl); have d4 := bel_later hb (b := w.heap.size) (o := 4) (by simp [go_sem]; rfl); have x0 := bel_later hb (b := w.heap.size + 1) (o := 0) (by simp [go_sem]; rfl); have x1 := bel_later hb (b := w.heap.size + 1) (o := 1) (by simp [go_sem]; rfl); clear hb; simp only [ptB] at *)
  all_goals
    go_ret
    refine ⟨?_, by first | assumption | go_grown⟩
    refine ret_eq ?_
    rw [HR.out]
    clear HR C
    have z := sz0 (s := too)
    first
    | (simp_all [mF, rightS, sbS, ltS, emp]; done)
    | (simp_all [mF, rightS, sbS, ltS, emp]; omega)
    | (exfalso; simp_all; omega)
    | exact m4_bad (by assumption) (by assumption) (by omega) (by omega) (by assumption) (by assumption)
    | exact m4_ok (by assumption) (by assumption) (by omega) (by omega) (by assumption) (by assumption)
    | (simp [mF, rightS, sbS, ltS, emp, *]; done)
    | (trace_state; fail)
set_option maxRecDepth 100000 in
set_option maxHeartbeats 4000000 in
theorem rmsg_2 (q dl a0 a1 a2 a3 a4 a5 a6 a7 a8 : Int) (key too val : ByteArray) (w : World) :
    Calls Tryz.prog 71 #[.agg #[.int .u8 2, .int .i64 q, .string key, .string too, .string val, .int .u64 dl], .agg #[.int .i64 a0, .int .i64 a1, .int .i64 a2, .int .i64 a3, .int .i64 a4, .int .i64 a5, .int .i64 a6, .int .i64 a7, .int .i64 a8]] w fun e w' => e = .returned (.int .i64 (mF 2 dl a0 a1 key too val)) ∧ Below w.heap.size w w' := by
  obtain ⟨r, hr⟩ : ∃ r, r = mF 2 dl a0 a1 key too val := ⟨_, rfl⟩
  rw [← hr]
  have HR := Lib.hid hr
  clear hr
  have C := Lib.hid (fun dl w => pt_any 2 q dl key too val w)
  go_enter Tryz.func71, Tryz.ntmps71
  go_wp2_with (go_at_call 89; refine (C.out _ _).mono ?_; rintro e w1 ⟨rfl, hb⟩; have b1 : Below w.heap.size w w1 := (Below.trans (by go_grown) (hb.mono (by simp; try omega))); have d0 := bel_later hb (b := w.heap.size) (o := 0) (by simp [go_sem]; rfl); have d2 := bel_later hb (b := w.heap.size) (o := 2) (by simp [go_sem]; rfl); have d3 := bel_later hb (b := w.heap.size) (o := 3) (by simp [go_sem]; rfl); have d4 := bel_later hb (b := w.heap.size) (o := 4) (by simp [go_sem]; rfl); have x0 := bel_later hb (b := w.heap.size + 1) (o := 0) (by simp [go_sem]; rfl); have x1 := bel_later hb (b := w.heap.size + 1) (o := 1) (by simp [go_sem]; rfl); clear hb; simp only [ptB] at *)
  all_goals
    go_ret
    refine ⟨?_, by first | assumption | go_grown⟩
    refine ret_eq ?_
    rw [HR.out]
    clear HR C
    have z := sz0 (s := too)
    first
    | (simp_all [mF, rightS, sbS, ltS, emp]; done)
    | (simp_all [mF, rightS, sbS, ltS, emp]; omega)
    | (exfalso; simp_all; omega)
    | exact m4_bad (by assumption) (by assumption) (by omega) (by omega) (by assumption) (by assumption)
    | exact m4_ok (by assumption) (by assumption) (by omega) (by omega) (by assumption) (by assumption)
    | (simp [mF, rightS, sbS, ltS, emp, *]; done)
    | (trace_state; fail)
set_option maxRecDepth 100000 in
set_option maxHeartbeats 4000000 in
theorem rmsg_3 (q dl a0 a1 a2 a3 a4 a5 a6 a7 a8 : Int) (key too val : ByteArray) (w : World) :
    Calls Tryz.prog 71 #[.agg #[.int .u8 3, .int .i64 q, .string key, .string too, .string val, .int .u64 dl], .agg #[.int .i64 a0, .int .i64 a1, .int .i64 a2, .int .i64 a3, .int .i64 a4, .int .i64 a5, .int .i64 a6, .int .i64 a7, .int .i64 a8]] w fun e w' => e = .returned (.int .i64 (mF 3 dl a0 a1 key too val)) ∧ Below w.heap.size w w' := by
  obtain ⟨r, hr⟩ : ∃ r, r = mF 3 dl a0 a1 key too val := ⟨_, rfl⟩
  rw [← hr]
  have HR := Lib.hid hr
  clear hr
  have C := Lib.hid (fun dl w => pt_any 3 q dl key too val w)
  go_enter Tryz.func71, Tryz.ntmps71
  go_wp2_with (go_at_call 89; refine (C.out _ _).mono ?_; rintro e w1 ⟨rfl, hb⟩; have b1 : Below w.heap.size w w1 := (Below.trans (by go_grown) (hb.mono (by simp; try omega))); have d0 := bel_later hb (b := w.heap.size) (o := 0) (by simp [go_sem]; rfl); have d2 := bel_later hb (b := w.heap.size) (o := 2) (by simp [go_sem]; rfl); have d3 := bel_later hb (b := w.heap.size) (o := 3) (by simp [go_sem]; rfl); have d4 := bel_later hb (b := w.heap.size) (o := 4) (by simp [go_sem]; rfl); have x0 := bel_later hb (b := w.heap.size + 1) (o := 0) (by simp [go_sem]; rfl); have x1 := bel_later hb (b := w.heap.size + 1) (o := 1) (by simp [go_sem]; rfl); clear hb; simp only [ptB] at *)
  all_goals
    go_ret
    refine ⟨?_, by first | assumption | go_grown⟩
    refine ret_eq ?_
    rw [HR.out]
    clear HR C
    have z := sz0 (s := too)
    first
    | (simp_all [mF, rightS, sbS, ltS, emp]; done)
    | (simp_all [mF, rightS, sbS, ltS, emp]; omega)
    | (exfalso; simp_all; omega)
    | exact m4_bad (by assumption) (by assumption) (by omega) (by omega) (by assumption) (by assumption)
    | exact m4_ok (by assumption) (by assumption) (by omega) (by omega) (by assumption) (by assumption)
    | (simp [mF, rightS, sbS, ltS, emp, *]; done)
    | (trace_state; fail)
set_option maxRecDepth 100000 in
set_option maxHeartbeats 4000000 in
theorem rmsg_4 (q dl a0 a1 a2 a3 a4 a5 a6 a7 a8 : Int) (key too val : ByteArray) (w : World) :
    Calls Tryz.prog 71 #[.agg #[.int .u8 4, .int .i64 q, .string key, .string too, .string val, .int .u64 dl], .agg #[.int .i64 a0, .int .i64 a1, .int .i64 a2, .int .i64 a3, .int .i64 a4, .int .i64 a5, .int .i64 a6, .int .i64 a7, .int .i64 a8]] w fun e w' => e = .returned (.int .i64 (mF 4 dl a0 a1 key too val)) ∧ Below w.heap.size w w' := by
  obtain ⟨r, hr⟩ : ∃ r, r = mF 4 dl a0 a1 key too val := ⟨_, rfl⟩
  rw [← hr]
  have HR := Lib.hid hr
  clear hr
  have C := Lib.hid (fun dl w => pt_any 4 q dl key too val w)
  go_enter Tryz.func71, Tryz.ntmps71
  go_wp2_with (go_at_call 89; refine (C.out _ _).mono ?_; rintro e w1 ⟨rfl, hb⟩; have b1 : Below w.heap.size w w1 := (Below.trans (by go_grown) (hb.mono (by simp; try omega))); have d0 := bel_later hb (b := w.heap.size) (o := 0) (by simp [go_sem]; rfl); have d2 := bel_later hb (b := w.heap.size) (o := 2) (by simp [go_sem]; rfl); have d3 := bel_later hb (b := w.heap.size) (o := 3) (by simp [go_sem]; rfl); have d4 := bel_later hb (b := w.heap.size) (o := 4) (by simp [go_sem]; rfl); have x0 := bel_later hb (b := w.heap.size + 1) (o := 0) (by simp [go_sem]; rfl); have x1 := bel_later hb (b := w.heap.size + 1) (o := 1) (by simp [go_sem]; rfl); clear hb; simp only [ptB] at *)
  all_goals
    go_ret
    refine ⟨?_, by first | assumption | go_grown⟩
    refine ret_eq ?_
    rw [HR.out]
    clear HR C
    have z := sz0 (s := too)
    first
    | (simp_all [mF, rightS, sbS, ltS, emp]; done)
    | (simp_all [mF, rightS, sbS, ltS, emp]; omega)
    | (exfalso; simp_all; omega)
    | exact m4_bad (by assumption) (by assumption) (by omega) (by omega) (by assumption) (by assumption)
    | exact m4_ok (by assumption) (by assumption) (by omega) (by omega) (by assumption) (by assumption)
    | (simp [mF, rightS, sbS, ltS, emp, *]; done)
    | (trace_state; fail)
set_option maxRecDepth 100000 in
set_option maxHeartbeats 4000000 in
theorem rmsg_lo (k q dl a0 a1 a2 a3 a4 a5 a6 a7 a8 : Int) (key too val : ByteArray) (w : World) (hk : k < 1) :
    Calls Tryz.prog 71 #[.agg #[.int .u8 k, .int .i64 q, .string key, .string too, .string val, .int .u64 dl], .agg #[.int .i64 a0, .int .i64 a1, .int .i64 a2, .int .i64 a3, .int .i64 a4, .int .i64 a5, .int .i64 a6, .int .i64 a7, .int .i64 a8]] w fun e w' => e = .returned (.int .i64 (mF k dl a0 a1 key too val)) ∧ Below w.heap.size w w' := by
  obtain ⟨r, hr⟩ : ∃ r, r = mF k dl a0 a1 key too val := ⟨_, rfl⟩
  rw [← hr]
  have HR := Lib.hid hr
  clear hr
  have C := Lib.hid (fun dl w => pt_any k q dl key too val w)
  go_enter Tryz.func71, Tryz.ntmps71
  go_wp2_with (go_at_call 89; refine (C.out _ _).mono ?_; rintro e w1 ⟨rfl, hb⟩; have b1 : Below w.heap.size w w1 := (Below.trans (by go_grown) (hb.mono (by simp; try omega))); have d0 := bel_later hb (b := w.heap.size) (o := 0) (by simp [go_sem]; rfl); have d2 := bel_later hb (b := w.heap.size) (o := 2) (by simp [go_sem]; rfl); have d3 := bel_later hb (b := w.heap.size) (o := 3) (by simp [go_sem]; rfl); have d4 := bel_later hb (b := w.heap.size) (o := 4) (by simp [go_sem]; rfl); have x0 := bel_later hb (b := w.heap.size + 1) (o := 0) (by simp [go_sem]; rfl); have x1 := bel_later hb (b := w.heap.size + 1) (o := 1) (by simp [go_sem]; rfl); clear hb; simp only [ptB] at *)
  all_goals
    go_ret
    refine ⟨?_, by first | assumption | go_grown⟩
    refine ret_eq ?_
    rw [HR.out]
    clear HR C
    have z := sz0 (s := too)
    first
    | (simp_all [mF, rightS, sbS, ltS, emp]; done)
    | (simp_all [mF, rightS, sbS, ltS, emp]; omega)
    | (exfalso; simp_all; omega)
    | exact m4_bad (by assumption) (by assumption) (by omega) (by omega) (by assumption) (by assumption)
    | exact m4_ok (by assumption) (by assumption) (by omega) (by omega) (by assumption) (by assumption)
    | (simp [mF, rightS, sbS, ltS, emp, *]; done)
    | (trace_state; fail)
set_option maxRecDepth 100000 in
set_option maxHeartbeats 4000000 in
theorem rmsg_hi (k q dl a0 a1 a2 a3 a4 a5 a6 a7 a8 : Int) (key too val : ByteArray) (w : World) (hk : 4 < k) :
    Calls Tryz.prog 71 #[.agg #[.int .u8 k, .int .i64 q, .string key, .string too, .string val, .int .u64 dl], .agg #[.int .i64 a0, .int .i64 a1, .int .i64 a2, .int .i64 a3, .int .i64 a4, .int .i64 a5, .int .i64 a6, .int .i64 a7, .int .i64 a8]] w fun e w' => e = .returned (.int .i64 (mF k dl a0 a1 key too val)) ∧ Below w.heap.size w w' := by
  obtain ⟨r, hr⟩ : ∃ r, r = mF k dl a0 a1 key too val := ⟨_, rfl⟩
  rw [← hr]
  have HR := Lib.hid hr
  clear hr
  have C := Lib.hid (fun dl w => pt_any k q dl key too val w)
  go_enter Tryz.func71, Tryz.ntmps71
  go_wp2_with (go_at_call 89; refine (C.out _ _).mono ?_; rintro e w1 ⟨rfl, hb⟩; have b1 : Below w.heap.size w w1 := (Below.trans (by go_grown) (hb.mono (by simp; try omega))); have d0 := bel_later hb (b := w.heap.size) (o := 0) (by simp [go_sem]; rfl); have d2 := bel_later hb (b := w.heap.size) (o := 2) (by simp [go_sem]; rfl); have d3 := bel_later hb (b := w.heap.size) (o := 3) (by simp [go_sem]; rfl); have d4 := bel_later hb (b := w.heap.size) (o := 4) (by simp [go_sem]; rfl); have x0 := bel_later hb (b := w.heap.size + 1) (o := 0) (by simp [go_sem]; rfl); have x1 := bel_later hb (b := w.heap.size + 1) (o := 1) (by simp [go_sem]; rfl); clear hb; simp only [ptB] at *)
  all_goals
    go_ret
    refine ⟨?_, by first | assumption | go_grown⟩
    refine ret_eq ?_
    rw [HR.out]
    clear HR C
    have z := sz0 (s := too)
    first
    | (simp_all [mF, rightS, sbS, ltS, emp]; done)
    | (simp_all [mF, rightS, sbS, ltS, emp]; omega)
    | (exfalso; simp_all; omega)
    | exact m4_bad (by assumption) (by assumption) (by omega) (by omega) (by assumption) (by assumption)
    | exact m4_ok (by assumption) (by assumption) (by omega) (by omega) (by assumption) (by assumption)
    | (simp [mF, rightS, sbS, ltS, emp, *]; done)
    | (trace_state; fail)
end Go.Proofs.YtdebedeebmmleaaGreatDoor
