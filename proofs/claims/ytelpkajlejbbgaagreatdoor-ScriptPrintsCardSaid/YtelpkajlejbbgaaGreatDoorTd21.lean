/- Texts of the proof, one behind the other. -/
import Derived.Test.YtelpkajlejbbgaaGreatDoorTd01
import Derived.Test.YtelpkajlejbbgaaGreatDoorTd19
import Derived.Test.YtelpkajlejbbgaaGreatDoorTd20
set_option linter.unusedVariables false
set_option linter.unusedSimpArgs false
namespace Go.Proofs.YtelpkajlejbbgaaGreatDoor
open Go.RowKit Go.Maps
theorem askb_fm {k n : Int} {key too : ByteArray} (hp : opureB k n key too 0 = true) : askF k n 1099511627776 1099511627776 1099511627776 key too 0 [] ≠ 3 := by
  unfold askF
  rw [if_neg (by rw [hp]; decide)]
  have ar : ∀ k : Int, arF k n 1099511627776 1099511627776 key too ≠ 3 := by
    intro k
    unfold arF
    repeat' split
    all_goals decide
  split
  · split <;> decide
  split
  · decide
  split
  · exact ar 3
  split
  · exact ar 4
  · decide
theorem num_ok {n : Int} (h : inR n = true) (w : World) : Calls Tryz.prog 28 #[.int .i64 n] w fun e w' => e = .returned (.tuple #[.string (itoaB n), .bool true]) ∧ w' = w := by
  have h2 := h
  unfold inR at h2
  simp only [Bool.and_eq_true, decide_eq_true_eq] at h2
  have := rnum_any n (by omega) (by omega) w
  unfold numT at this
  rw [if_pos h] at this
  exact this
set_option maxHeartbeats 2000000 in
set_option maxRecDepth 100000 in
theorem rop_1 (n : Int) (key too : ByteArray) (A : Option Addr) (c : Nat) (w : World) (hkey : key.size ≤ 900000) (htoo : too.size ≤ 900000) (hn : inR n = true) (hp : opureB 1 n key too 0 = true) :
    Calls Tryz.prog 29 #[.agg #[.int .u8 1, .string key, .string too, .int .i64 n, .slice A 0 c]] w fun e w' => e = .returned (.tuple #[.string ⟨(lineL [wGet, tokB key]).toArray⟩, .int .i64 0]) ∧ Below w.heap.size w w' := by
  have HS := Lib.hid (And.intro hkey htoo)
  obtain ⟨v, hv⟩ : ∃ v, askF 1 n 1099511627776 1099511627776 1099511627776 key too 0 [] = v := ⟨_, rfl⟩
  have HC : Hid (∀ W, Calls Tryz.prog 33 #[.agg #[.int .u8 1, .string key, .string too, .int .i64 n, .slice none 0 0], cfg 1099511627776 1099511627776 0 0 0 0 0 0 1099511627776] W fun e w' => e = .returned (.int .i64 v) ∧ Below W.heap.size W w') := Lib.hid (fun W => by
    have := rask_any 1 n 1099511627776 1099511627776 0 0 0 0 0 0 1099511627776 key too none 0 0 [] W rfl (.inl rfl)
    rw [hv] at this
    exact this)
  have hv3 : ¬ v = 3 := by rw [← hv]; exact askb_fm hp
  have HNU := Lib.hid (fun W => num_ok hn W)
  have HNS : Hid ((itoaB n).size ≤ 100) := Lib.hid (by
    have h2 := hn
    unfold inR at h2
    simp only [Bool.and_eq_true, decide_eq_true_eq] at h2
    have := itoa_sz n (by omega) (by omega)
    omega)
  have HX := Lib.hid (fun W => rtoken_any key (by have := HS.out.1; omega) W)
  have HXS := Lib.hid (tok_sz4 hkey)
  have HE : Hid (⟨(lineL [wGet, tokB key]).toArray⟩ = ((⟨#[103, 101, 116, 32]⟩ ++ (tokB key)) ++ ⟨#[10]⟩)) := Lib.hid (ba_inj (by rw [line2, ba_app, ba_app, ba_list]; simp [wGet]))
  rw [HE.out]
  clear HE
  generalize tokB key = X at HX HXS ⊢
  generalize itoaB n = N at HNU HNS
  clear hkey htoo hn hp hv
  obtain ⟨W0, hW0⟩ : ∃ W0, W0 = w.alloc (.cells #[.int .u8 1, .string key, .string too, .int .i64 n, .slice A 0 c] 47) := ⟨_, rfl⟩
  have B0 := Lib.hid (show Below w.heap.size w W0 by rw [hW0]; exact alb w _)
  have Z0 := Lib.hid (show W0.heap[w.heap.size]? = some (.cells #[.int .u8 1, .string key, .string too, .int .i64 n, .slice A 0 c] 47) by rw [hW0]; exact heap_alloc_new w _)
  obtain ⟨c0, c1, c2, c3, c4⟩ := cells5 Z0.out
  go_enter Tryz.func29, Tryz.ntmps29
  go_upto_region 1 with fail
  rw [← hW0]
  clear hW0
  go_upto_region 5 with (first
    | (go_at_call 28; ((with_reducible refine (HNU.out _).mono ?_); rintro e w1 ⟨rfl, hw⟩; (have hw2 := hw.symm; subst hw2; clear hw)))
    | fail)
  obtain ⟨W1, hW1⟩ : ∃ W1, W1 = W0.alloc (.cells #[.int .u8 1, .string key, .string too, .int .i64 n, .slice none 0 0] 47) := ⟨_, rfl⟩
  have B1 := Lib.hid (show Below w.heap.size w W1 by rw [hW1]; exact bel_alloc B0.out _)
  have Z1 := Lib.hid (show W1.heap[w.heap.size]? = some (.cells #[.int .u8 1, .string key, .string too, .int .i64 n, .slice A 0 c] 47) by rw [hW1]; exact keep_bel (alb _ _) Z0.out)
  have Y1 := Lib.hid (show W1.heap[W0.heap.size]? = some (.cells #[.int .u8 1, .string key, .string too, .int .i64 n, .slice none 0 0] 47) by rw [hW1]; exact heap_alloc_new W0 _)
  rw [← hW1]
  clear hW1 c0 c1 c2 c3 c4
  obtain ⟨c0, c1, c2, c3, c4⟩ := cells5 Z1.out
  obtain ⟨d0, d1, d2, d3, d4⟩ := cells5 Y1.out
  have hcat : ¬ 9223372036854775807 < 4 + X.size := by have := HXS.out; omega
  have hcat2 : ¬ 9223372036854775807 < 4 + X.size + 1 := by have := HXS.out; omega
  go_wp2_with (first
    | (go_at_call 33; ((with_reducible refine (HC.out _).mono ?_); rintro e w2 ⟨rfl, b1⟩; have B2 := Lib.hid (bel_trans B1.out b1); have Z2 := Lib.hid (keep_bel b1 Z1.out); obtain ⟨c0, c1, c2, c3, c4⟩ := cells5 Z2.out; clear b1))
    | (go_at_call 20; ((with_reducible refine (HX.out _).mono ?_); rintro e w3 ⟨rfl, b1⟩; have B3 := Lib.hid (bel_trans B2.out b1); clear b1))
    | fail)
  all_goals
    first
    | (exfalso; have := HXS.out; omega)
    | (refine bodyPost_ret (v := .tuple #[.string ((⟨#[103, 101, 116, 32]⟩ ++ X) ++ ⟨#[10]⟩), .int .i64 0]) (by simp [results, Tryz.results29, go_sem]) rfl ⟨rfl, B3.out⟩)
set_option maxHeartbeats 2000000 in
set_option maxRecDepth 100000 in
theorem rop_4 (n : Int) (key too : ByteArray) (A : Option Addr) (c : Nat) (w : World) (hkey : key.size ≤ 900000) (htoo : too.size ≤ 900000) (hn : inR n = true) (hp : opureB 4 n key too 0 = true) :
    Calls Tryz.prog 29 #[.agg #[.int .u8 4, .string key, .string too, .int .i64 n, .slice A 0 c]] w fun e w' => e = .returned (.tuple #[.string ⟨(lineL [wOpen, tokB key, tokB too]).toArray⟩, .int .i64 0]) ∧ Below w.heap.size w w' := by
  have HS := Lib.hid (And.intro hkey htoo)
  obtain ⟨v, hv⟩ : ∃ v, askF 4 n 1099511627776 1099511627776 1099511627776 key too 0 [] = v := ⟨_, rfl⟩
  have HC : Hid (∀ W, Calls Tryz.prog 33 #[.agg #[.int .u8 4, .string key, .string too, .int .i64 n, .slice none 0 0], cfg 1099511627776 1099511627776 0 0 0 0 0 0 1099511627776] W fun e w' => e = .returned (.int .i64 v) ∧ Below W.heap.size W w') := Lib.hid (fun W => by
    have := rask_any 4 n 1099511627776 1099511627776 0 0 0 0 0 0 1099511627776 key too none 0 0 [] W rfl (.inl rfl)
    rw [hv] at this
    exact this)
  have hv3 : ¬ v = 3 := by rw [← hv]; exact askb_fm hp
  have HNU := Lib.hid (fun W => num_ok hn W)
  have HNS : Hid ((itoaB n).size ≤ 100) := Lib.hid (by
    have h2 := hn
    unfold inR at h2
    simp only [Bool.and_eq_true, decide_eq_true_eq] at h2
    have := itoa_sz n (by omega) (by omega)
    omega)
  have HX := Lib.hid (fun W => rtoken_any key (by have := HS.out.1; omega) W)
  have HXS := Lib.hid (tok_sz4 hkey)
  have HY := Lib.hid (fun W => rtoken_any too (by have := HS.out.2; omega) W)
  have HYS := Lib.hid (tok_sz4 htoo)
  have HE : Hid (⟨(lineL [wOpen, tokB key, tokB too]).toArray⟩ = ((((⟨#[111, 112, 101, 110, 32]⟩ ++ (tokB key)) ++ ⟨#[32]⟩) ++ (tokB too)) ++ ⟨#[10]⟩)) := Lib.hid (ba_inj (by rw [line3, ba_app, ba_app, ba_app, ba_app, ba_list]; simp [wOpen]))
  rw [HE.out]
  clear HE
  generalize tokB key = X at HX HXS ⊢
  generalize tokB too = Y at HY HYS ⊢
  generalize itoaB n = N at HNU HNS
  clear hkey htoo hn hp hv
  obtain ⟨W0, hW0⟩ : ∃ W0, W0 = w.alloc (.cells #[.int .u8 4, .string key, .string too, .int .i64 n, .slice A 0 c] 47) := ⟨_, rfl⟩
  have B0 := Lib.hid (show Below w.heap.size w W0 by rw [hW0]; exact alb w _)
  have Z0 := Lib.hid (show W0.heap[w.heap.size]? = some (.cells #[.int .u8 4, .string key, .string too, .int .i64 n, .slice A 0 c] 47) by rw [hW0]; exact heap_alloc_new w _)
  obtain ⟨c0, c1, c2, c3, c4⟩ := cells5 Z0.out
  go_enter Tryz.func29, Tryz.ntmps29
  go_upto_region 1 with fail
  rw [← hW0]
  clear hW0
  go_upto_region 5 with (first
    | (go_at_call 28; ((with_reducible refine (HNU.out _).mono ?_); rintro e w1 ⟨rfl, hw⟩; (have hw2 := hw.symm; subst hw2; clear hw)))
    | fail)
  obtain ⟨W1, hW1⟩ : ∃ W1, W1 = W0.alloc (.cells #[.int .u8 4, .string key, .string too, .int .i64 n, .slice none 0 0] 47) := ⟨_, rfl⟩
  have B1 := Lib.hid (show Below w.heap.size w W1 by rw [hW1]; exact bel_alloc B0.out _)
  have Z1 := Lib.hid (show W1.heap[w.heap.size]? = some (.cells #[.int .u8 4, .string key, .string too, .int .i64 n, .slice A 0 c] 47) by rw [hW1]; exact keep_bel (alb _ _) Z0.out)
  have Y1 := Lib.hid (show W1.heap[W0.heap.size]? = some (.cells #[.int .u8 4, .string key, .string too, .int .i64 n, .slice none 0 0] 47) by rw [hW1]; exact heap_alloc_new W0 _)
  rw [← hW1]
  clear hW1 c0 c1 c2 c3 c4
  obtain ⟨c0, c1, c2, c3, c4⟩ := cells5 Z1.out
  obtain ⟨d0, d1, d2, d3, d4⟩ := cells5 Y1.out
  go_upto_region 12 with (first
    | (go_at_call 33; ((with_reducible refine (HC.out _).mono ?_); rintro e w2 ⟨rfl, b1⟩; have B2 := Lib.hid (bel_trans B1.out b1); have Z2 := Lib.hid (keep_bel b1 Z1.out); obtain ⟨c0, c1, c2, c3, c4⟩ := cells5 Z2.out; clear b1))
    | fail)
  clear c0 c1 c2 c3 c4 d0 d1 d2 d3 d4
  refine wp_region_held_drew (S := (fun V : World => V.heap[w.heap.size]? = some (.cells #[.int .u8 4, .string key, .string too, .int .i64 n, .slice A 0 c] 47))) (by kernel_rfl) ?_ (fun hHeld => ?_)
  · exact Z2.out
  have HHeld := Lib.hid hHeld; clear hHeld
  refine wT (i := 0) (oi := { dst := some 81, op := Op.fieldAddr 47 (Operand.tmp 1) 1, type := 0, pos := "ref.go:109", after := #[], guard := none }) (v := ?_) rfl (Or.inl ⟨by rfl, ?_⟩) HHeld.out ?_
  rotate_left
  · intro w hSw; clear hSw; go_simp; try with_reducible rfl
  try simp only [pu, pn, s1, s2, s3]
  refine wT (i := 1) (oi := { dst := some 82, op := Op.load 9 (Operand.tmp 81), type := 9, pos := "ref.go:109", after := #[{ on := 0, ground := Ground.data }], guard := none }) (v := (.string key : Value)) rfl (Or.inl ⟨by rfl, ?_⟩) HHeld.out ?_
  · intro V hV; have hc0 := cellh hV (i := 1) rfl; clear hV; go_simp
  try simp only [pu, pn, s1, s2, s3]
  refine wT (i := 5) (oi := { dst := some 86, op := Op.fieldAddr 47 (Operand.tmp 1) 2, type := 0, pos := "ref.go:109", after := #[], guard := none }) (v := ?_) rfl (Or.inl ⟨by rfl, ?_⟩) HHeld.out ?_
  rotate_left
  · intro w hSw; clear hSw; go_simp; try with_reducible rfl
  try simp only [pu, pn, s1, s2, s3]
  refine wT (i := 6) (oi := { dst := some 87, op := Op.load 9 (Operand.tmp 86), type := 9, pos := "ref.go:109", after := #[{ on := 5, ground := Ground.data }], guard := none }) (v := (.string too : Value)) rfl (Or.inl ⟨by rfl, ?_⟩) HHeld.out ?_
  · intro V hV; have hc0 := cellh hV (i := 2) rfl; clear hV; go_simp
  try simp only [pu, pn, s1, s2, s3]
  refine wpAnyH_ready (rs := [2]) (by kernel_rfl) (by simp) ?_
  refine AllReadyH.cons (o := { dst := some 83, op := Op.call { callee := Callee.value (Operand.func 20), args := #[Operand.tmp 82], argTypes := #[9] }, type := 9, pos := "ref.go:109", after := #[{ on := 1, ground := Ground.data }], guard := none }) rfl (fun K hK => ?_) AllReadyH.nil
  go_simp
  go_at_call 20; ((with_reducible refine (HX.out _).mono ?_); rintro e w3 ⟨rfl, bb⟩; have B3 := Lib.hid (bel_trans B2.out (bel_dr bb)); have Z3 := Lib.hid (keep_bel bb HHeld.out); clear bb)
  refine hK.out _ _ ?_ (fun hHeld => ?_)
  · exact Z3.out
  clear HHeld; have HHeld := Lib.hid hHeld; clear hHeld
  clear hK K
  try simp only [pu, pn, s1, s2, s3]
  refine wT (i := 3) (oi := { dst := some 84, op := Op.binOp BinOp.add 9 (Operand.const (Value.string { data := #[111, 112, 101, 110, 32] })) (Operand.tmp 83) 9, type := 9, pos := "ref.go:109", after := #[{ on := 2, ground := Ground.data }], guard := none }) (v := (.string (⟨#[111, 112, 101, 110, 32]⟩ ++ X) : Value)) rfl (Or.inl ⟨by rfl, ?_⟩) HHeld.out ?_
  · intro V hV; clear hV; have hsx := HXS.out; have hsy := HYS.out; have hsn := HNS.out; go_simp; omega
  try simp only [pu, pn, s1, s2, s3]
  refine wT (i := 4) (oi := { dst := some 85, op := Op.binOp BinOp.add 9 (Operand.tmp 84) (Operand.const (Value.string { data := #[32] })) 9, type := 9, pos := "ref.go:109", after := #[{ on := 3, ground := Ground.data }], guard := none }) (v := (.string ((⟨#[111, 112, 101, 110, 32]⟩ ++ X) ++ ⟨#[32]⟩) : Value)) rfl (Or.inl ⟨by rfl, ?_⟩) HHeld.out ?_
  · intro V hV; clear hV; have hsx := HXS.out; have hsy := HYS.out; have hsn := HNS.out; go_simp; omega
  try simp only [pu, pn, s1, s2, s3]
  refine wpAnyH_ready (rs := [7]) (by kernel_rfl) (by simp) ?_
  refine AllReadyH.cons (o := { dst := some 88, op := Op.call { callee := Callee.value (Operand.func 20), args := #[Operand.tmp 87], argTypes := #[9] }, type := 9, pos := "ref.go:109", after := #[{ on := 6, ground := Ground.data }, { on := 2, ground := Ground.chain }], guard := none }) rfl (fun K hK => ?_) AllReadyH.nil
  go_simp
  go_at_call 20; ((with_reducible refine (HY.out _).mono ?_); rintro e w4 ⟨rfl, bb⟩; have B4 := Lib.hid (bel_trans B3.out (bb)); have Z4 := Lib.hid (keep_bel bb HHeld.out); clear bb)
  refine hK.out _ _ ?_ (fun hHeld => ?_)
  · exact Z4.out
  clear HHeld; have HHeld := Lib.hid hHeld; clear hHeld
  clear hK K
  try simp only [pu, pn, s1, s2, s3]
  refine wT (i := 8) (oi := { dst := some 89, op := Op.binOp BinOp.add 9 (Operand.tmp 85) (Operand.tmp 88) 9, type := 9, pos := "ref.go:109", after := #[{ on := 4, ground := Ground.data }, { on := 7, ground := Ground.data }], guard := none }) (v := (.string (((⟨#[111, 112, 101, 110, 32]⟩ ++ X) ++ ⟨#[32]⟩) ++ Y) : Value)) rfl (Or.inl ⟨by rfl, ?_⟩) HHeld.out ?_
  · intro V hV; clear hV; have hsx := HXS.out; have hsy := HYS.out; have hsn := HNS.out; go_simp; omega
  try simp only [pu, pn, s1, s2, s3]
  refine wT (i := 9) (oi := { dst := some 90, op := Op.binOp BinOp.add 9 (Operand.tmp 89) (Operand.const (Value.string { data := #[10] })) 9, type := 9, pos := "ref.go:109", after := #[{ on := 8, ground := Ground.data }], guard := none }) (v := (.string ((((⟨#[111, 112, 101, 110, 32]⟩ ++ X) ++ ⟨#[32]⟩) ++ Y) ++ ⟨#[10]⟩) : Value)) rfl (Or.inl ⟨by rfl, ?_⟩) HHeld.out ?_
  · intro V hV; clear hV; have hsx := HXS.out; have hsy := HYS.out; have hsn := HNS.out; go_simp; omega
  try simp only [pu, pn, s1, s2, s3]
  refine wT (i := 10) (oi := { dst := some 2, op := Op.assign (Operand.tmp 90), type := 9, pos := "ref.go:109", after := #[{ on := 9, ground := Ground.data }, { on := 7, ground := Ground.chain }, { on := 0, ground := Ground.phase }, { on := 1, ground := Ground.phase }, { on := 2, ground := Ground.phase }, { on := 3, ground := Ground.phase }, { on := 4, ground := Ground.phase }, { on := 5, ground := Ground.phase }, { on := 6, ground := Ground.phase }, { on := 7, ground := Ground.phase }, { on := 8, ground := Ground.phase }, { on := 9, ground := Ground.phase }], guard := none }) (v := ?_) rfl (Or.inl ⟨by rfl, ?_⟩) HHeld.out ?_
  rotate_left
  · intro w hSw; clear hSw; go_simp; try with_reducible rfl
  try simp only [pu, pn, s1, s2, s3]
  refine wT (i := 11) (oi := { dst := some 3, op := Op.assign (Operand.const (Value.int IntKind.i64 0)), type := 30, pos := "ref.go:109", after := #[{ on := 10, ground := Ground.chain }, { on := 0, ground := Ground.phase }, { on := 1, ground := Ground.phase }, { on := 2, ground := Ground.phase }, { on := 3, ground := Ground.phase }, { on := 4, ground := Ground.phase }, { on := 5, ground := Ground.phase }, { on := 6, ground := Ground.phase }, { on := 7, ground := Ground.phase }, { on := 8, ground := Ground.phase }, { on := 9, ground := Ground.phase }, { on := 10, ground := Ground.phase }], guard := none }) (v := ?_) rfl (Or.inl ⟨by rfl, ?_⟩) HHeld.out ?_
  rotate_left
  · intro w hSw; clear hSw; go_simp; try with_reducible rfl
  try simp only [pu, pn, s1, s2, s3]
  refine wpAnyH_done (by kernel_rfl) ?_ _
  clear HHeld
  go_wp2
  refine bodyPost_ret (v := .tuple #[.string ((((⟨#[111, 112, 101, 110, 32]⟩ ++ X) ++ ⟨#[32]⟩) ++ Y) ++ ⟨#[10]⟩), .int .i64 0]) (by simp [results, Tryz.results29, go_sem]) rfl ⟨rfl, B4.out⟩
set_option maxHeartbeats 2000000 in
set_option maxRecDepth 100000 in
theorem rop_5 (n : Int) (key too : ByteArray) (A : Option Addr) (c : Nat) (w : World) (hkey : key.size ≤ 900000) (htoo : too.size ≤ 900000) (hn : inR n = true) (hp : opureB 5 n key too 0 = true) :
    Calls Tryz.prog 29 #[.agg #[.int .u8 5, .string key, .string too, .int .i64 n, .slice A 0 c]] w fun e w' => e = .returned (.tuple #[.string ⟨(lineL [wNext, itoaB n]).toArray⟩, .int .i64 0]) ∧ Below w.heap.size w w' := by
  have HS := Lib.hid (And.intro hkey htoo)
  obtain ⟨v, hv⟩ : ∃ v, askF 5 n 1099511627776 1099511627776 1099511627776 key too 0 [] = v := ⟨_, rfl⟩
  have HC : Hid (∀ W, Calls Tryz.prog 33 #[.agg #[.int .u8 5, .string key, .string too, .int .i64 n, .slice none 0 0], cfg 1099511627776 1099511627776 0 0 0 0 0 0 1099511627776] W fun e w' => e = .returned (.int .i64 v) ∧ Below W.heap.size W w') := Lib.hid (fun W => by
    have := rask_any 5 n 1099511627776 1099511627776 0 0 0 0 0 0 1099511627776 key too none 0 0 [] W rfl (.inl rfl)
    rw [hv] at this
    exact this)
  have hv3 : ¬ v = 3 := by rw [← hv]; exact askb_fm hp
  have HNU := Lib.hid (fun W => num_ok hn W)
  have HNS : Hid ((itoaB n).size ≤ 100) := Lib.hid (by
    have h2 := hn
    unfold inR at h2
    simp only [Bool.and_eq_true, decide_eq_true_eq] at h2
    have := itoa_sz n (by omega) (by omega)
    omega)
  have HE : Hid (⟨(lineL [wNext, itoaB n]).toArray⟩ = ((⟨#[110, 101, 120, 116, 32]⟩ ++ (itoaB n)) ++ ⟨#[10]⟩)) := Lib.hid (ba_inj (by rw [line2, ba_app, ba_app, ba_list]; simp [wNext]))
  rw [HE.out]
  clear HE
  generalize itoaB n = N at HNU HNS ⊢
  clear hkey htoo hn hp hv
  obtain ⟨W0, hW0⟩ : ∃ W0, W0 = w.alloc (.cells #[.int .u8 5, .string key, .string too, .int .i64 n, .slice A 0 c] 47) := ⟨_, rfl⟩
  have B0 := Lib.hid (show Below w.heap.size w W0 by rw [hW0]; exact alb w _)
  have Z0 := Lib.hid (show W0.heap[w.heap.size]? = some (.cells #[.int .u8 5, .string key, .string too, .int .i64 n, .slice A 0 c] 47) by rw [hW0]; exact heap_alloc_new w _)
  obtain ⟨c0, c1, c2, c3, c4⟩ := cells5 Z0.out
  go_enter Tryz.func29, Tryz.ntmps29
  go_upto_region 1 with fail
  rw [← hW0]
  clear hW0
  go_upto_region 5 with (first
    | (go_at_call 28; ((with_reducible refine (HNU.out _).mono ?_); rintro e w1 ⟨rfl, hw⟩; (have hw2 := hw.symm; subst hw2; clear hw)))
    | fail)
  obtain ⟨W1, hW1⟩ : ∃ W1, W1 = W0.alloc (.cells #[.int .u8 5, .string key, .string too, .int .i64 n, .slice none 0 0] 47) := ⟨_, rfl⟩
  have B1 := Lib.hid (show Below w.heap.size w W1 by rw [hW1]; exact bel_alloc B0.out _)
  have Z1 := Lib.hid (show W1.heap[w.heap.size]? = some (.cells #[.int .u8 5, .string key, .string too, .int .i64 n, .slice A 0 c] 47) by rw [hW1]; exact keep_bel (alb _ _) Z0.out)
  have Y1 := Lib.hid (show W1.heap[W0.heap.size]? = some (.cells #[.int .u8 5, .string key, .string too, .int .i64 n, .slice none 0 0] 47) by rw [hW1]; exact heap_alloc_new W0 _)
  rw [← hW1]
  clear hW1 c0 c1 c2 c3 c4
  obtain ⟨c0, c1, c2, c3, c4⟩ := cells5 Z1.out
  obtain ⟨d0, d1, d2, d3, d4⟩ := cells5 Y1.out
  have hcat : ¬ 9223372036854775807 < 5 + N.size := by have := HNS.out; omega
  have hcat2 : ¬ 9223372036854775807 < 5 + N.size + 1 := by have := HNS.out; omega
  go_wp2_with (first
    | (go_at_call 33; ((with_reducible refine (HC.out _).mono ?_); rintro e w2 ⟨rfl, b1⟩; have B2 := Lib.hid (bel_trans B1.out b1); have Z2 := Lib.hid (keep_bel b1 Z1.out); obtain ⟨c0, c1, c2, c3, c4⟩ := cells5 Z2.out; clear b1))
    | fail)
  all_goals
    first
    | (exfalso; have := HNS.out; omega)
    | (refine bodyPost_ret (v := .tuple #[.string ((⟨#[110, 101, 120, 116, 32]⟩ ++ N) ++ ⟨#[10]⟩), .int .i64 0]) (by simp [results, Tryz.results29, go_sem]) rfl ⟨rfl, B2.out⟩)
set_option maxHeartbeats 2000000 in
set_option maxRecDepth 100000 in
theorem rop_6 (n : Int) (key too : ByteArray) (A : Option Addr) (c : Nat) (w : World) (hkey : key.size ≤ 900000) (htoo : too.size ≤ 900000) (hn : inR n = true) (hp : opureB 6 n key too 0 = true) :
    Calls Tryz.prog 29 #[.agg #[.int .u8 6, .string key, .string too, .int .i64 n, .slice A 0 c]] w fun e w' => e = .returned (.tuple #[.string ⟨(lineL [wClose, itoaB n]).toArray⟩, .int .i64 0]) ∧ Below w.heap.size w w' := by
  have HS := Lib.hid (And.intro hkey htoo)
  obtain ⟨v, hv⟩ : ∃ v, askF 6 n 1099511627776 1099511627776 1099511627776 key too 0 [] = v := ⟨_, rfl⟩
  have HC : Hid (∀ W, Calls Tryz.prog 33 #[.agg #[.int .u8 6, .string key, .string too, .int .i64 n, .slice none 0 0], cfg 1099511627776 1099511627776 0 0 0 0 0 0 1099511627776] W fun e w' => e = .returned (.int .i64 v) ∧ Below W.heap.size W w') := Lib.hid (fun W => by
    have := rask_any 6 n 1099511627776 1099511627776 0 0 0 0 0 0 1099511627776 key too none 0 0 [] W rfl (.inl rfl)
    rw [hv] at this
    exact this)
  have hv3 : ¬ v = 3 := by rw [← hv]; exact askb_fm hp
  have HNU := Lib.hid (fun W => num_ok hn W)
  have HNS : Hid ((itoaB n).size ≤ 100) := Lib.hid (by
    have h2 := hn
    unfold inR at h2
    simp only [Bool.and_eq_true, decide_eq_true_eq] at h2
    have := itoa_sz n (by omega) (by omega)
    omega)
  have HE : Hid (⟨(lineL [wClose, itoaB n]).toArray⟩ = ((⟨#[99, 108, 111, 115, 101, 32]⟩ ++ (itoaB n)) ++ ⟨#[10]⟩)) := Lib.hid (ba_inj (by rw [line2, ba_app, ba_app, ba_list]; simp [wClose]))
  rw [HE.out]
  clear HE
  generalize itoaB n = N at HNU HNS ⊢
  clear hkey htoo hn hp hv
  obtain ⟨W0, hW0⟩ : ∃ W0, W0 = w.alloc (.cells #[.int .u8 6, .string key, .string too, .int .i64 n, .slice A 0 c] 47) := ⟨_, rfl⟩
  have B0 := Lib.hid (show Below w.heap.size w W0 by rw [hW0]; exact alb w _)
  have Z0 := Lib.hid (show W0.heap[w.heap.size]? = some (.cells #[.int .u8 6, .string key, .string too, .int .i64 n, .slice A 0 c] 47) by rw [hW0]; exact heap_alloc_new w _)
  obtain ⟨c0, c1, c2, c3, c4⟩ := cells5 Z0.out
  go_enter Tryz.func29, Tryz.ntmps29
  go_upto_region 1 with fail
  rw [← hW0]
  clear hW0
  go_upto_region 5 with (first
    | (go_at_call 28; ((with_reducible refine (HNU.out _).mono ?_); rintro e w1 ⟨rfl, hw⟩; (have hw2 := hw.symm; subst hw2; clear hw)))
    | fail)
  obtain ⟨W1, hW1⟩ : ∃ W1, W1 = W0.alloc (.cells #[.int .u8 6, .string key, .string too, .int .i64 n, .slice none 0 0] 47) := ⟨_, rfl⟩
  have B1 := Lib.hid (show Below w.heap.size w W1 by rw [hW1]; exact bel_alloc B0.out _)
  have Z1 := Lib.hid (show W1.heap[w.heap.size]? = some (.cells #[.int .u8 6, .string key, .string too, .int .i64 n, .slice A 0 c] 47) by rw [hW1]; exact keep_bel (alb _ _) Z0.out)
  have Y1 := Lib.hid (show W1.heap[W0.heap.size]? = some (.cells #[.int .u8 6, .string key, .string too, .int .i64 n, .slice none 0 0] 47) by rw [hW1]; exact heap_alloc_new W0 _)
  rw [← hW1]
  clear hW1 c0 c1 c2 c3 c4
  obtain ⟨c0, c1, c2, c3, c4⟩ := cells5 Z1.out
  obtain ⟨d0, d1, d2, d3, d4⟩ := cells5 Y1.out
  have hcat : ¬ 9223372036854775807 < 6 + N.size := by have := HNS.out; omega
  have hcat2 : ¬ 9223372036854775807 < 6 + N.size + 1 := by have := HNS.out; omega
  go_wp2_with (first
    | (go_at_call 33; ((with_reducible refine (HC.out _).mono ?_); rintro e w2 ⟨rfl, b1⟩; have B2 := Lib.hid (bel_trans B1.out b1); have Z2 := Lib.hid (keep_bel b1 Z1.out); obtain ⟨c0, c1, c2, c3, c4⟩ := cells5 Z2.out; clear b1))
    | fail)
  all_goals
    first
    | (exfalso; have := HNS.out; omega)
    | (refine bodyPost_ret (v := .tuple #[.string ((⟨#[99, 108, 111, 115, 101, 32]⟩ ++ N) ++ ⟨#[10]⟩), .int .i64 0]) (by simp [results, Tryz.results29, go_sem]) rfl ⟨rfl, B2.out⟩)
end Go.Proofs.YtelpkajlejbbgaaGreatDoor
namespace Go.Proofs.YtelpkajlejbbgaaGreatDoor
open Go.RowKit Go.Maps
set_option maxHeartbeats 400000 in
set_option maxRecDepth 100000 in
theorem rop_3 (n : Int) (key too : ByteArray) (A : Option Addr) (c : Nat) (w : World) (hkey : key.size ≤ 900000) (htoo : too.size ≤ 900000) (hn : inR n = true) (hp : opureB 3 n key too 0 = true) :
    Calls Tryz.prog 29 #[.agg #[.int .u8 3, .string key, .string too, .int .i64 n, .slice A 0 c]] w fun e w' => e = .returned (.tuple #[.string ⟨(lineL [wLook, tokB key, tokB too, itoaB n]).toArray⟩, .int .i64 0]) ∧ Below w.heap.size w w' := by
  have HS := Lib.hid (And.intro hkey htoo)
  obtain ⟨v, hv⟩ : ∃ v, askF 3 n 1099511627776 1099511627776 1099511627776 key too 0 [] = v := ⟨_, rfl⟩
  have HC : Hid (∀ W, Calls Tryz.prog 33 #[.agg #[.int .u8 3, .string key, .string too, .int .i64 n, .slice none 0 0], cfg 1099511627776 1099511627776 0 0 0 0 0 0 1099511627776] W fun e w' => e = .returned (.int .i64 v) ∧ Below W.heap.size W w') := Lib.hid (fun W => by
    have := rask_any 3 n 1099511627776 1099511627776 0 0 0 0 0 0 1099511627776 key too none 0 0 [] W rfl (.inl rfl)
    rw [hv] at this
    exact this)
  have hv3 : ¬ v = 3 := by rw [← hv]; exact askb_fm hp
  have HNU := Lib.hid (fun W => num_ok hn W)
  have HNS : Hid ((itoaB n).size ≤ 100) := Lib.hid (by
    have h2 := hn
    unfold inR at h2
    simp only [Bool.and_eq_true, decide_eq_true_eq] at h2
    have := itoa_sz n (by omega) (by omega)
    omega)
  have HX := Lib.hid (fun W => rtoken_any key (by have := HS.out.1; omega) W)
  have HXS := Lib.hid (tok_sz4 hkey)
  have HY := Lib.hid (fun W => rtoken_any too (by have := HS.out.2; omega) W)
  have HYS := Lib.hid (tok_sz4 htoo)
  have HE : Hid (⟨(lineL [wLook, tokB key, tokB too, itoaB n]).toArray⟩ = ((((((⟨#[108, 111, 111, 107, 32]⟩ ++ (tokB key)) ++ ⟨#[32]⟩) ++ (tokB too)) ++ ⟨#[32]⟩) ++ (itoaB n)) ++ ⟨#[10]⟩)) := Lib.hid (ba_inj (by rw [line4, ba_app, ba_app, ba_app, ba_app, ba_app, ba_app, ba_list]; simp [wLook]))
  rw [HE.out]
  clear HE
  generalize tokB key = X at HX HXS ⊢
  generalize tokB too = Y at HY HYS ⊢
  generalize itoaB n = N at HNU HNS ⊢
  clear hkey htoo hn hp hv
  obtain ⟨W0, hW0⟩ : ∃ W0, W0 = w.alloc (.cells #[.int .u8 3, .string key, .string too, .int .i64 n, .slice A 0 c] 47) := ⟨_, rfl⟩
  have B0 := Lib.hid (show Below w.heap.size w W0 by rw [hW0]; exact alb w _)
  have Z0 := Lib.hid (show W0.heap[w.heap.size]? = some (.cells #[.int .u8 3, .string key, .string too, .int .i64 n, .slice A 0 c] 47) by rw [hW0]; exact heap_alloc_new w _)
  obtain ⟨c0, c1, c2, c3, c4⟩ := cells5 Z0.out
  go_enter Tryz.func29, Tryz.ntmps29
  go_upto_region 1 with fail
  rw [← hW0]
  clear hW0
  go_upto_region 5 with (first
    | (go_at_call 28; ((with_reducible refine (HNU.out _).mono ?_); rintro e w1 ⟨rfl, hw⟩; (have hw2 := hw.symm; subst hw2; clear hw)))
    | fail)
  obtain ⟨W1, hW1⟩ : ∃ W1, W1 = W0.alloc (.cells #[.int .u8 3, .string key, .string too, .int .i64 n, .slice none 0 0] 47) := ⟨_, rfl⟩
  have B1 := Lib.hid (show Below w.heap.size w W1 by rw [hW1]; exact bel_alloc B0.out _)
  have Z1 := Lib.hid (show W1.heap[w.heap.size]? = some (.cells #[.int .u8 3, .string key, .string too, .int .i64 n, .slice A 0 c] 47) by rw [hW1]; exact keep_bel (alb _ _) Z0.out)
  have Y1 := Lib.hid (show W1.heap[W0.heap.size]? = some (.cells #[.int .u8 3, .string key, .string too, .int .i64 n, .slice none 0 0] 47) by rw [hW1]; exact heap_alloc_new W0 _)
  rw [← hW1]
  clear hW1 c0 c1 c2 c3 c4
  obtain ⟨c0, c1, c2, c3, c4⟩ := cells5 Z1.out
  obtain ⟨d0, d1, d2, d3, d4⟩ := cells5 Y1.out
  go_upto_region 10 with (first
    | (go_at_call 33; ((with_reducible refine (HC.out _).mono ?_); rintro e w2 ⟨rfl, b1⟩; have B2 := Lib.hid (bel_trans B1.out b1); have Z2 := Lib.hid (keep_bel b1 Z1.out); obtain ⟨c0, c1, c2, c3, c4⟩ := cells5 Z2.out; clear b1))
    | fail)
  clear c0 c1 c2 c3 c4 d0 d1 d2 d3 d4
  refine wp_region_held_drew (S := (fun V : World => V.heap[w.heap.size]? = some (.cells #[.int .u8 3, .string key, .string too, .int .i64 n, .slice A 0 c] 47))) (by kernel_rfl) ?_ (fun hHeld => ?_)
  · exact Z2.out
  have HHeld := Lib.hid hHeld; clear hHeld
  refine wT (i := 0) (oi := { dst := some 65, op := Op.fieldAddr 47 (Operand.tmp 1) 1, type := 0, pos := "ref.go:106", after := #[], guard := none }) (v := ?_) rfl (Or.inl ⟨by rfl, ?_⟩) HHeld.out ?_
  rotate_left
  · intro w hSw; clear hSw; go_simp; try with_reducible rfl
  try simp only [pu, pn, s1, s2, s3]
  refine wT (i := 1) (oi := { dst := some 66, op := Op.load 9 (Operand.tmp 65), type := 9, pos := "ref.go:106", after := #[{ on := 0, ground := Ground.data }], guard := none }) (v := (.string key : Value)) rfl (Or.inl ⟨by rfl, ?_⟩) HHeld.out ?_
  · intro V hV; have hc0 := cellh hV (i := 1) rfl; clear hV; go_simp
  try simp only [pu, pn, s1, s2, s3]
  refine wT (i := 5) (oi := { dst := some 70, op := Op.fieldAddr 47 (Operand.tmp 1) 2, type := 0, pos := "ref.go:106", after := #[], guard := none }) (v := ?_) rfl (Or.inl ⟨by rfl, ?_⟩) HHeld.out ?_
  rotate_left
  · intro w hSw; clear hSw; go_simp; try with_reducible rfl
  try simp only [pu, pn, s1, s2, s3]
  refine wT (i := 6) (oi := { dst := some 71, op := Op.load 9 (Operand.tmp 70), type := 9, pos := "ref.go:106", after := #[{ on := 5, ground := Ground.data }], guard := none }) (v := (.string too : Value)) rfl (Or.inl ⟨by rfl, ?_⟩) HHeld.out ?_
  · intro V hV; have hc0 := cellh hV (i := 2) rfl; clear hV; go_simp
  try simp only [pu, pn, s1, s2, s3]
  refine wT (i := 10) (oi := { dst := some 75, op := Op.move (Operand.tmp 4), type := 9, pos := "ref.go:106", after := #[], guard := none }) (v := ?_) rfl (Or.inl ⟨by rfl, ?_⟩) HHeld.out ?_
  rotate_left
  · intro w hSw; clear hSw; go_simp; try with_reducible rfl
  try simp only [pu, pn, s1, s2, s3]
  refine wpAnyH_ready (rs := [2]) (by kernel_rfl) (by simp) ?_
  refine AllReadyH.cons (o := { dst := some 67, op := Op.call { callee := Callee.value (Operand.func 20), args := #[Operand.tmp 66], argTypes := #[9] }, type := 9, pos := "ref.go:106", after := #[{ on := 1, ground := Ground.data }], guard := none }) rfl (fun K hK => ?_) AllReadyH.nil
  go_simp
  go_at_call 20; ((with_reducible refine (HX.out _).mono ?_); rintro e w3 ⟨rfl, bb⟩; have B3 := Lib.hid (bel_trans B2.out (bel_dr bb)); have Z3 := Lib.hid (keep_bel bb HHeld.out); clear bb)
  refine hK.out _ _ ?_ (fun hHeld => ?_)
  · exact Z3.out
  clear HHeld; have HHeld := Lib.hid hHeld; clear hHeld
  clear hK K
  try simp only [pu, pn, s1, s2, s3]
  refine wT (i := 3) (oi := { dst := some 68, op := Op.binOp BinOp.add 9 (Operand.const (Value.string { data := #[108, 111, 111, 107, 32] })) (Operand.tmp 67) 9, type := 9, pos := "ref.go:106", after := #[{ on := 2, ground := Ground.data }], guard := none }) (v := (.string (⟨#[108, 111, 111, 107, 32]⟩ ++ X) : Value)) rfl (Or.inl ⟨by rfl, ?_⟩) HHeld.out ?_
  · intro V hV; clear hV; have hsx := HXS.out; have hsy := HYS.out; have hsn := HNS.out; go_simp; omega
  try simp only [pu, pn, s1, s2, s3]
  refine wT (i := 4) (oi := { dst := some 69, op := Op.binOp BinOp.add 9 (Operand.tmp 68) (Operand.const (Value.string { data := #[32] })) 9, type := 9, pos := "ref.go:106", after := #[{ on := 3, ground := Ground.data }], guard := none }) (v := (.string ((⟨#[108, 111, 111, 107, 32]⟩ ++ X) ++ ⟨#[32]⟩) : Value)) rfl (Or.inl ⟨by rfl, ?_⟩) HHeld.out ?_
  · intro V hV; clear hV; have hsx := HXS.out; have hsy := HYS.out; have hsn := HNS.out; go_simp; omega
  try simp only [pu, pn, s1, s2, s3]
  refine wpAnyH_ready (rs := [7]) (by kernel_rfl) (by simp) ?_
  refine AllReadyH.cons (o := { dst := some 72, op := Op.call { callee := Callee.value (Operand.func 20), args := #[Operand.tmp 71], argTypes := #[9] }, type := 9, pos := "ref.go:106", after := #[{ on := 6, ground := Ground.data }, { on := 2, ground := Ground.chain }], guard := none }) rfl (fun K hK => ?_) AllReadyH.nil
  go_simp
  go_at_call 20; ((with_reducible refine (HY.out _).mono ?_); rintro e w4 ⟨rfl, bb⟩; have B4 := Lib.hid (bel_trans B3.out (bb)); have Z4 := Lib.hid (keep_bel bb HHeld.out); clear bb)
  refine hK.out _ _ ?_ (fun hHeld => ?_)
  · exact Z4.out
  clear HHeld; have HHeld := Lib.hid hHeld; clear hHeld
  clear hK K
  try simp only [pu, pn, s1, s2, s3]
  refine wT (i := 8) (oi := { dst := some 73, op := Op.binOp BinOp.add 9 (Operand.tmp 69) (Operand.tmp 72) 9, type := 9, pos := "ref.go:106", after := #[{ on := 4, ground := Ground.data }, { on := 7, ground := Ground.data }], guard := none }) (v := (.string (((⟨#[108, 111, 111, 107, 32]⟩ ++ X) ++ ⟨#[32]⟩) ++ Y) : Value)) rfl (Or.inl ⟨by rfl, ?_⟩) HHeld.out ?_
  · intro V hV; clear hV; have hsx := HXS.out; have hsy := HYS.out; have hsn := HNS.out; go_simp; omega
  try simp only [pu, pn, s1, s2, s3]
  refine wT (i := 9) (oi := { dst := some 74, op := Op.binOp BinOp.add 9 (Operand.tmp 73) (Operand.const (Value.string { data := #[32] })) 9, type := 9, pos := "ref.go:106", after := #[{ on := 8, ground := Ground.data }], guard := none }) (v := (.string ((((⟨#[108, 111, 111, 107, 32]⟩ ++ X) ++ ⟨#[32]⟩) ++ Y) ++ ⟨#[32]⟩) : Value)) rfl (Or.inl ⟨by rfl, ?_⟩) HHeld.out ?_
  · intro V hV; clear hV; have hsx := HXS.out; have hsy := HYS.out; have hsn := HNS.out; go_simp; omega
  try simp only [pu, pn, s1, s2, s3]
  refine wT (i := 11) (oi := { dst := some 76, op := Op.binOp BinOp.add 9 (Operand.tmp 74) (Operand.tmp 75) 9, type := 9, pos := "ref.go:106", after := #[{ on := 9, ground := Ground.data }, { on := 10, ground := Ground.data }], guard := none }) (v := (.string (((((⟨#[108, 111, 111, 107, 32]⟩ ++ X) ++ ⟨#[32]⟩) ++ Y) ++ ⟨#[32]⟩) ++ N) : Value)) rfl (Or.inl ⟨by rfl, ?_⟩) HHeld.out ?_
  · intro V hV; clear hV; have hsx := HXS.out; have hsy := HYS.out; have hsn := HNS.out; go_simp; omega
  try simp only [pu, pn, s1, s2, s3]
  refine wT (i := 12) (oi := { dst := some 77, op := Op.binOp BinOp.add 9 (Operand.tmp 76) (Operand.const (Value.string { data := #[10] })) 9, type := 9, pos := "ref.go:106", after := #[{ on := 11, ground := Ground.data }], guard := none }) (v := (.string ((((((⟨#[108, 111, 111, 107, 32]⟩ ++ X) ++ ⟨#[32]⟩) ++ Y) ++ ⟨#[32]⟩) ++ N) ++ ⟨#[10]⟩) : Value)) rfl (Or.inl ⟨by rfl, ?_⟩) HHeld.out ?_
  · intro V hV; clear hV; have hsx := HXS.out; have hsy := HYS.out; have hsn := HNS.out; go_simp; omega
  try simp only [pu, pn, s1, s2, s3]
  refine wT (i := 13) (oi := { dst := some 2, op := Op.assign (Operand.tmp 77), type := 9, pos := "ref.go:106", after := #[{ on := 12, ground := Ground.data }, { on := 7, ground := Ground.chain }, { on := 0, ground := Ground.phase }, { on := 1, ground := Ground.phase }, { on := 2, ground := Ground.phase }, { on := 3, ground := Ground.phase }, { on := 4, ground := Ground.phase }, { on := 5, ground := Ground.phase }, { on := 6, ground := Ground.phase }, { on := 7, ground := Ground.phase }, { on := 8, ground := Ground.phase }, { on := 9, ground := Ground.phase }, { on := 10, ground := Ground.phase }, { on := 11, ground := Ground.phase }, { on := 12, ground := Ground.phase }], guard := none }) (v := ?_) rfl (Or.inl ⟨by rfl, ?_⟩) HHeld.out ?_
  rotate_left
  · intro w hSw; clear hSw; go_simp; try with_reducible rfl
  try simp only [pu, pn, s1, s2, s3]
  refine wT (i := 14) (oi := { dst := some 3, op := Op.assign (Operand.const (Value.int IntKind.i64 0)), type := 30, pos := "ref.go:106", after := #[{ on := 13, ground := Ground.chain }, { on := 0, ground := Ground.phase }, { on := 1, ground := Ground.phase }, { on := 2, ground := Ground.phase }, { on := 3, ground := Ground.phase }, { on := 4, ground := Ground.phase }, { on := 5, ground := Ground.phase }, { on := 6, ground := Ground.phase }, { on := 7, ground := Ground.phase }, { on := 8, ground := Ground.phase }, { on := 9, ground := Ground.phase }, { on := 10, ground := Ground.phase }, { on := 11, ground := Ground.phase }, { on := 12, ground := Ground.phase }, { on := 13, ground := Ground.phase }], guard := none }) (v := ?_) rfl (Or.inl ⟨by rfl, ?_⟩) HHeld.out ?_
  rotate_left
  · intro w hSw; clear hSw; go_simp; try with_reducible rfl
  try simp only [pu, pn, s1, s2, s3]
  refine wpAnyH_done (by kernel_rfl) ?_ _
  clear HHeld
  go_wp2
  generalize ((((((⟨#[108, 111, 111, 107, 32]⟩ ++ X) ++ ⟨#[32]⟩) ++ Y) ++ ⟨#[32]⟩) ++ N) ++ (⟨#[10]⟩ : ByteArray)) = Z
  refine bodyPost_ret (v := .tuple #[.string Z, .int .i64 0]) (by simp [results, Tryz.results29, go_sem]) rfl ⟨rfl, B4.out⟩
end Go.Proofs.YtelpkajlejbbgaaGreatDoor
