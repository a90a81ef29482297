/- A message's line, by definition. -/
import Derived.Test.YtelpkajlejbbgaaGreatDoorTd01
import Derived.Test.YtelpkajlejbbgaaGreatDoorTd04
import Derived.Test.YtelpkajlejbbgaaGreatDoorTd11
import Derived.Test.YtelpkajlejbbgaaGreatDoorTd17
import Derived.Test.YtelpkajlejbbgaaGreatDoorTd18
set_option linter.unusedVariables false
set_option linter.unusedSimpArgs false
namespace Go.Proofs.YtelpkajlejbbgaaGreatDoor
open Go.RowKit Go.Maps
theorem mf_form {k dl a0 a1 : Int} (b0 b1 : Int) {key too val : ByteArray} (h : mF k dl a0 a1 key too val = 3) : mF k dl b0 b1 key too val = 3 := by
  unfold mF at h ⊢
  by_cases k1 : k = 1
  · rw [if_pos k1] at h ⊢
    by_cases t : ¬ too.toList = []
    · rw [if_pos t]
    · rw [if_neg t] at h ⊢
      by_cases d : ¬ dl = 0
      · rw [if_pos d]
      · rw [if_neg d] at h ⊢
        exfalso
        (repeat' split at h)
        all_goals omega
  · rw [if_neg k1] at h ⊢
    by_cases k2 : k = 2
    · rw [if_pos k2] at h ⊢
      by_cases t : ¬ too.toList = []
      · rw [if_pos t]
      · rw [if_neg t] at h ⊢
        by_cases v : ¬ val.toList = []
        · rw [if_pos v]
        · rw [if_neg v] at h ⊢
          by_cases d : ¬ dl = 0
          · rw [if_pos d]
          · rw [if_neg d] at h ⊢
            exfalso
            (repeat' split at h)
            all_goals omega
    · rw [if_neg k2] at h ⊢
      by_cases k3 : k = 3
      · rw [if_pos k3] at h ⊢
        by_cases t : ¬ too.toList = []
        · rw [if_pos t]
        · rw [if_neg t] at h ⊢
          by_cases v : ¬ val.toList = []
          · rw [if_pos v]
          · rw [if_neg v] at h ⊢
            exfalso
            (repeat' split at h)
            all_goals omega
      · rw [if_neg k3] at h ⊢
        by_cases k4 : k = 4
        · rw [if_pos k4] at h ⊢
          by_cases v : ¬ val.toList = []
          · rw [if_pos v]
          · rw [if_neg v] at h ⊢
            by_cases d : ¬ dl = 0
            · rw [if_pos d]
            · rw [if_neg d] at h ⊢
              exfalso
              (repeat' split at h)
              all_goals omega
        · rw [if_neg k4]
theorem line2 (x y : ByteArray) : lineL [x, y] = x.data.toList ++ (32 :: (y.data.toList ++ [10])) := by
  unfold lineL
  show Lib.join (x.data.toList :: y.data.toList :: []) [32] ++ [10] = _
  rw [join_two, Lib.join_one]
  simp
theorem line3 (x y z : ByteArray) : lineL [x, y, z] = x.data.toList ++ (32 :: (y.data.toList ++ (32 :: (z.data.toList ++ [10])))) := by
  unfold lineL
  show Lib.join (x.data.toList :: y.data.toList :: z.data.toList :: []) [32] ++ [10] = _
  rw [join_two, join_two, Lib.join_one]
  simp
theorem line4 (x y z u : ByteArray) : lineL [x, y, z, u] = x.data.toList ++ (32 :: (y.data.toList ++ (32 :: (z.data.toList ++ (32 :: (u.data.toList ++ [10])))))) := by
  unfold lineL
  show Lib.join (x.data.toList :: y.data.toList :: z.data.toList :: u.data.toList :: []) [32] ++ [10] = _
  rw [join_two, join_two, join_two, Lib.join_one]
  simp
theorem tok_sz4 {t : ByteArray} (h : t.size ≤ 900000) : (tokB t).size ≤ 2000000 := by have := tok_size t; omega
set_option maxHeartbeats 2000000 in
set_option maxRecDepth 100000 in
theorem rline_1 (dl : Int) (key too val : ByteArray) (w : World) (hkey : key.size ≤ 900000) (htoo : too.size ≤ 900000) (hval : val.size ≤ 900000) (hm : mF 1 dl 2147483647 2147483647 key too val ≠ 3) :
    Calls Tryz.prog 53 #[.agg #[.int .u8 1, .int .i64 0, .string key, .string too, .string val, .int .u64 dl]] w fun e w' => e = .returned (.tuple #[.string ⟨(lineL [wPut, tokB key, tokB val]).toArray⟩, .bool true]) ∧ Below w.heap.size w w' := by
  have HS := Lib.hid (And.intro hkey (And.intro htoo hval))
  have hm2 : mF 1 dl 1099511627776 1099511627776 key too val ≠ 3 := fun e => hm (mf_form _ _ e)
  obtain ⟨v, hv⟩ : ∃ v, mF 1 dl 1099511627776 1099511627776 key too val = v := ⟨_, rfl⟩
  have HC : Hid (∀ W, Calls Tryz.prog 60 #[.agg #[.int .u8 1, .int .i64 0, .string key, .string too, .string val, .int .u64 dl], cfg 1099511627776 1099511627776 0 0 0 0 0 0 0] W fun e w' => e = .returned (.int .i64 v) ∧ Below W.heap.size W w') := Lib.hid (fun W => by
    have := qmsg_any 1 0 dl 1099511627776 1099511627776 0 0 0 0 0 0 0 key too val W
    rw [hv] at this
    exact this)
  have hv3 : ¬ v = 3 := by rw [← hv]; exact hm2
  have HX := Lib.hid (fun W => rtoken_any key (by have := HS.out.1; omega) W)
  have HXS := Lib.hid (tok_sz4 hkey)
  have HY := Lib.hid (fun W => rtoken_any val (by have := HS.out.2.2; omega) W)
  have HYS := Lib.hid (tok_sz4 hval)
  have HE : Hid (⟨(lineL [wPut, tokB key, tokB val]).toArray⟩ = ((((⟨#[112, 117, 116, 32]⟩ ++ (tokB key)) ++ ⟨#[32]⟩) ++ (tokB val)) ++ ⟨#[10]⟩)) := Lib.hid (ba_inj (by rw [line3, ba_app, ba_app, ba_app, ba_app, ba_list]; simp [wPut]))
  rw [HE.out]
  clear HE
  generalize tokB key = X at HX HXS ⊢
  generalize tokB val = Y at HY HYS ⊢
  clear hkey htoo hval hm hm2 hv
  obtain ⟨W0, hW0⟩ : ∃ W0, W0 = (w.alloc (.cells #[.int .u8 1, .int .i64 0, .string key, .string too, .string val, .int .u64 dl] 51)).alloc (.cells #[.int .i64 1099511627776, .int .i64 1099511627776, .int .i64 0, .int .i64 0, .int .i64 0, .int .i64 0, .int .i64 0, .int .i64 0, .int .i64 0] 23) := ⟨_, rfl⟩
  have B0 := Lib.hid (show Below w.heap.size w W0 by rw [hW0]; exact bel_alloc (alb w _) _)
  have Z0 := Lib.hid (show W0.heap[w.heap.size]? = some (.cells #[.int .u8 1, .int .i64 0, .string key, .string too, .string val, .int .u64 dl] 51) by rw [hW0]; exact keep_bel (alb _ _) (heap_alloc_new w _))
  have Y0 := Lib.hid (show W0.heap[w.heap.size + 1]? = some (.cells #[.int .i64 1099511627776, .int .i64 1099511627776, .int .i64 0, .int .i64 0, .int .i64 0, .int .i64 0, .int .i64 0, .int .i64 0, .int .i64 0] 23) by rw [hW0]; simpa using heap_alloc_new (w.alloc (.cells #[.int .u8 1, .int .i64 0, .string key, .string too, .string val, .int .u64 dl] 51)) (.cells #[.int .i64 1099511627776, .int .i64 1099511627776, .int .i64 0, .int .i64 0, .int .i64 0, .int .i64 0, .int .i64 0, .int .i64 0, .int .i64 0] 23))
  obtain ⟨c0, c1, c2, c3, c4, c5⟩ := cells6 Z0.out
  have y0 : W0.cell? ⟨w.heap.size + 1, 0, none⟩ = some (.int .i64 1099511627776) := cellh Y0.out rfl
  have y1 : W0.cell? ⟨w.heap.size + 1, 1, none⟩ = some (.int .i64 1099511627776) := cellh Y0.out rfl
  have y2 : W0.cell? ⟨w.heap.size + 1, 2, none⟩ = some (.int .i64 0) := cellh Y0.out rfl
  have y3 : W0.cell? ⟨w.heap.size + 1, 3, none⟩ = some (.int .i64 0) := cellh Y0.out rfl
  have y4 : W0.cell? ⟨w.heap.size + 1, 4, none⟩ = some (.int .i64 0) := cellh Y0.out rfl
  have y5 : W0.cell? ⟨w.heap.size + 1, 5, none⟩ = some (.int .i64 0) := cellh Y0.out rfl
  have y6 : W0.cell? ⟨w.heap.size + 1, 6, none⟩ = some (.int .i64 0) := cellh Y0.out rfl
  have y7 : W0.cell? ⟨w.heap.size + 1, 7, none⟩ = some (.int .i64 0) := cellh Y0.out rfl
  have y8 : W0.cell? ⟨w.heap.size + 1, 8, none⟩ = some (.int .i64 0) := cellh Y0.out rfl
  go_enter Tryz.func53, Tryz.ntmps53
  go_upto_region 2 with fail
  rw [← hW0]
  clear hW0
  go_upto_region 5 with (first
    | (go_at_call 60; ((with_reducible refine (HC.out _).mono ?_); rintro e w1 ⟨rfl, b1⟩; have B1 := Lib.hid (bel_trans B0.out b1); have Z1 := Lib.hid (keep_bel b1 Z0.out); obtain ⟨c0, c1, c2, c3, c4, c5⟩ := cells6 Z1.out; clear b1))
    | fail)
  clear c0 c1 c2 c3 c4 c5 y0 y1 y2 y3 y4 y5 y6 y7 y8
  refine wp_region_held_drew (S := (fun V : World => V.heap[w.heap.size]? = some (.cells #[.int .u8 1, .int .i64 0, .string key, .string too, .string val, .int .u64 dl] 51))) (by kernel_rfl) ?_ (fun hHeld => ?_)
  · exact Z1.out
  have HHeld := Lib.hid hHeld; clear hHeld
  refine wT (i := 0) (oi := { dst := some 18, op := Op.fieldAddr 51 (Operand.tmp 1) 2, type := 0, pos := "ref.go:81", after := #[], guard := none }) (v := ?_) rfl (Or.inl ⟨by rfl, ?_⟩) HHeld.out ?_
  rotate_left
  · intro w hSw; clear hSw; go_simp; try with_reducible rfl
  try simp only [pu, pn, s1, s2, s3]
  refine wT (i := 1) (oi := { dst := some 19, op := Op.load 9 (Operand.tmp 18), type := 9, pos := "ref.go:81", after := #[{ on := 0, ground := Ground.data }], guard := none }) (v := (.string key : Value)) rfl (Or.inl ⟨by rfl, ?_⟩) HHeld.out ?_
  · intro V hV; have hc0 := cellh hV (i := 2) rfl; clear hV; go_simp
  try simp only [pu, pn, s1, s2, s3]
  refine wT (i := 5) (oi := { dst := some 23, op := Op.fieldAddr 51 (Operand.tmp 1) 4, type := 0, pos := "ref.go:81", after := #[], guard := none }) (v := ?_) rfl (Or.inl ⟨by rfl, ?_⟩) HHeld.out ?_
  rotate_left
  · intro w hSw; clear hSw; go_simp; try with_reducible rfl
  try simp only [pu, pn, s1, s2, s3]
  refine wT (i := 6) (oi := { dst := some 24, op := Op.load 9 (Operand.tmp 23), type := 9, pos := "ref.go:81", after := #[{ on := 5, ground := Ground.data }], guard := none }) (v := (.string val : Value)) rfl (Or.inl ⟨by rfl, ?_⟩) HHeld.out ?_
  · intro V hV; have hc0 := cellh hV (i := 4) rfl; clear hV; go_simp
  try simp only [pu, pn, s1, s2, s3]
  refine wpAnyH_ready (rs := [2]) (by kernel_rfl) (by simp) ?_
  refine AllReadyH.cons (o := { dst := some 20, op := Op.call { callee := Callee.value (Operand.func 20), args := #[Operand.tmp 19], argTypes := #[9] }, type := 9, pos := "ref.go:81", after := #[{ on := 1, ground := Ground.data }], guard := none }) rfl (fun K hK => ?_) AllReadyH.nil
  go_simp
  go_at_call 20; ((with_reducible refine (HX.out _).mono ?_); rintro e w2 ⟨rfl, bb⟩; have B2 := Lib.hid (bel_trans B1.out (bel_dr bb)); have Z2 := Lib.hid (keep_bel bb HHeld.out); clear bb)
  refine hK.out _ _ ?_ (fun hHeld => ?_)
  · exact Z2.out
  clear HHeld; have HHeld := Lib.hid hHeld; clear hHeld
  clear hK K
  try simp only [pu, pn, s1, s2, s3]
  refine wT (i := 3) (oi := { dst := some 21, op := Op.binOp BinOp.add 9 (Operand.const (Value.string { data := #[112, 117, 116, 32] })) (Operand.tmp 20) 9, type := 9, pos := "ref.go:81", after := #[{ on := 2, ground := Ground.data }], guard := none }) (v := (.string (⟨#[112, 117, 116, 32]⟩ ++ X) : Value)) rfl (Or.inl ⟨by rfl, ?_⟩) HHeld.out ?_
  · intro V hV; clear hV; have hsx := HXS.out; have hsy := HYS.out; go_simp; omega
  try simp only [pu, pn, s1, s2, s3]
  refine wT (i := 4) (oi := { dst := some 22, op := Op.binOp BinOp.add 9 (Operand.tmp 21) (Operand.const (Value.string { data := #[32] })) 9, type := 9, pos := "ref.go:81", after := #[{ on := 3, ground := Ground.data }], guard := none }) (v := (.string ((⟨#[112, 117, 116, 32]⟩ ++ X) ++ ⟨#[32]⟩) : Value)) rfl (Or.inl ⟨by rfl, ?_⟩) HHeld.out ?_
  · intro V hV; clear hV; have hsx := HXS.out; have hsy := HYS.out; go_simp; omega
  try simp only [pu, pn, s1, s2, s3]
  refine wpAnyH_ready (rs := [7]) (by kernel_rfl) (by simp) ?_
  refine AllReadyH.cons (o := { dst := some 25, op := Op.call { callee := Callee.value (Operand.func 20), args := #[Operand.tmp 24], argTypes := #[9] }, type := 9, pos := "ref.go:81", after := #[{ on := 6, ground := Ground.data }, { on := 2, ground := Ground.chain }], guard := none }) rfl (fun K hK => ?_) AllReadyH.nil
  go_simp
  go_at_call 20; ((with_reducible refine (HY.out _).mono ?_); rintro e w3 ⟨rfl, bb⟩; have B3 := Lib.hid (bel_trans B2.out (bb)); have Z3 := Lib.hid (keep_bel bb HHeld.out); clear bb)
  refine hK.out _ _ ?_ (fun hHeld => ?_)
  · exact Z3.out
  clear HHeld; have HHeld := Lib.hid hHeld; clear hHeld
  clear hK K
  try simp only [pu, pn, s1, s2, s3]
  refine wT (i := 8) (oi := { dst := some 26, op := Op.binOp BinOp.add 9 (Operand.tmp 22) (Operand.tmp 25) 9, type := 9, pos := "ref.go:81", after := #[{ on := 4, ground := Ground.data }, { on := 7, ground := Ground.data }], guard := none }) (v := (.string (((⟨#[112, 117, 116, 32]⟩ ++ X) ++ ⟨#[32]⟩) ++ Y) : Value)) rfl (Or.inl ⟨by rfl, ?_⟩) HHeld.out ?_
  · intro V hV; clear hV; have hsx := HXS.out; have hsy := HYS.out; go_simp; omega
  try simp only [pu, pn, s1, s2, s3]
  refine wT (i := 9) (oi := { dst := some 27, op := Op.binOp BinOp.add 9 (Operand.tmp 26) (Operand.const (Value.string { data := #[10] })) 9, type := 9, pos := "ref.go:81", after := #[{ on := 8, ground := Ground.data }], guard := none }) (v := (.string ((((⟨#[112, 117, 116, 32]⟩ ++ X) ++ ⟨#[32]⟩) ++ Y) ++ ⟨#[10]⟩) : Value)) rfl (Or.inl ⟨by rfl, ?_⟩) HHeld.out ?_
  · intro V hV; clear hV; have hsx := HXS.out; have hsy := HYS.out; go_simp; omega
  try simp only [pu, pn, s1, s2, s3]
  refine wT (i := 10) (oi := { dst := some 2, op := Op.assign (Operand.tmp 27), type := 9, pos := "ref.go:81", after := #[{ on := 9, ground := Ground.data }, { on := 7, ground := Ground.chain }, { on := 0, ground := Ground.phase }, { on := 1, ground := Ground.phase }, { on := 2, ground := Ground.phase }, { on := 3, ground := Ground.phase }, { on := 4, ground := Ground.phase }, { on := 5, ground := Ground.phase }, { on := 6, ground := Ground.phase }, { on := 7, ground := Ground.phase }, { on := 8, ground := Ground.phase }, { on := 9, ground := Ground.phase }], guard := none }) (v := ?_) rfl (Or.inl ⟨by rfl, ?_⟩) HHeld.out ?_
  rotate_left
  · intro w hSw; clear hSw; go_simp; try with_reducible rfl
  try simp only [pu, pn, s1, s2, s3]
  refine wT (i := 11) (oi := { dst := some 3, op := Op.assign (Operand.const (Value.bool true)), type := 4, pos := "ref.go:81", after := #[{ on := 10, ground := Ground.chain }, { on := 0, ground := Ground.phase }, { on := 1, ground := Ground.phase }, { on := 2, ground := Ground.phase }, { on := 3, ground := Ground.phase }, { on := 4, ground := Ground.phase }, { on := 5, ground := Ground.phase }, { on := 6, ground := Ground.phase }, { on := 7, ground := Ground.phase }, { on := 8, ground := Ground.phase }, { on := 9, ground := Ground.phase }, { on := 10, ground := Ground.phase }], guard := none }) (v := ?_) rfl (Or.inl ⟨by rfl, ?_⟩) HHeld.out ?_
  rotate_left
  · intro w hSw; clear hSw; go_simp; try with_reducible rfl
  try simp only [pu, pn, s1, s2, s3]
  refine wpAnyH_done (by kernel_rfl) ?_ _
  clear HHeld
  go_wp2
  refine bodyPost_ret (v := .tuple #[.string ((((⟨#[112, 117, 116, 32]⟩ ++ X) ++ ⟨#[32]⟩) ++ Y) ++ ⟨#[10]⟩), .bool true]) (by simp [results, Tryz.results53, go_sem]) rfl ⟨rfl, B3.out⟩
set_option maxHeartbeats 2000000 in
set_option maxRecDepth 100000 in
theorem rline_2 (dl : Int) (key too val : ByteArray) (w : World) (hkey : key.size ≤ 900000) (htoo : too.size ≤ 900000) (hval : val.size ≤ 900000) (hm : mF 2 dl 2147483647 2147483647 key too val ≠ 3) :
    Calls Tryz.prog 53 #[.agg #[.int .u8 2, .int .i64 0, .string key, .string too, .string val, .int .u64 dl]] w fun e w' => e = .returned (.tuple #[.string ⟨(lineL [wDel, tokB key]).toArray⟩, .bool true]) ∧ Below w.heap.size w w' := by
  have HS := Lib.hid (And.intro hkey (And.intro htoo hval))
  have hm2 : mF 2 dl 1099511627776 1099511627776 key too val ≠ 3 := fun e => hm (mf_form _ _ e)
  obtain ⟨v, hv⟩ : ∃ v, mF 2 dl 1099511627776 1099511627776 key too val = v := ⟨_, rfl⟩
  have HC : Hid (∀ W, Calls Tryz.prog 60 #[.agg #[.int .u8 2, .int .i64 0, .string key, .string too, .string val, .int .u64 dl], cfg 1099511627776 1099511627776 0 0 0 0 0 0 0] W fun e w' => e = .returned (.int .i64 v) ∧ Below W.heap.size W w') := Lib.hid (fun W => by
    have := qmsg_any 2 0 dl 1099511627776 1099511627776 0 0 0 0 0 0 0 key too val W
    rw [hv] at this
    exact this)
  have hv3 : ¬ v = 3 := by rw [← hv]; exact hm2
  have HX := Lib.hid (fun W => rtoken_any key (by have := HS.out.1; omega) W)
  have HXS := Lib.hid (tok_sz4 hkey)
  have HE : Hid (⟨(lineL [wDel, tokB key]).toArray⟩ = ((⟨#[100, 101, 108, 101, 116, 101, 32]⟩ ++ (tokB key)) ++ ⟨#[10]⟩)) := Lib.hid (ba_inj (by rw [line2, ba_app, ba_app, ba_list]; simp [wDel]))
  rw [HE.out]
  clear HE
  generalize tokB key = X at HX HXS ⊢
  clear hkey htoo hval hm hm2 hv
  obtain ⟨W0, hW0⟩ : ∃ W0, W0 = (w.alloc (.cells #[.int .u8 2, .int .i64 0, .string key, .string too, .string val, .int .u64 dl] 51)).alloc (.cells #[.int .i64 1099511627776, .int .i64 1099511627776, .int .i64 0, .int .i64 0, .int .i64 0, .int .i64 0, .int .i64 0, .int .i64 0, .int .i64 0] 23) := ⟨_, rfl⟩
  have B0 := Lib.hid (show Below w.heap.size w W0 by rw [hW0]; exact bel_alloc (alb w _) _)
  have Z0 := Lib.hid (show W0.heap[w.heap.size]? = some (.cells #[.int .u8 2, .int .i64 0, .string key, .string too, .string val, .int .u64 dl] 51) by rw [hW0]; exact keep_bel (alb _ _) (heap_alloc_new w _))
  have Y0 := Lib.hid (show W0.heap[w.heap.size + 1]? = some (.cells #[.int .i64 1099511627776, .int .i64 1099511627776, .int .i64 0, .int .i64 0, .int .i64 0, .int .i64 0, .int .i64 0, .int .i64 0, .int .i64 0] 23) by rw [hW0]; simpa using heap_alloc_new (w.alloc (.cells #[.int .u8 2, .int .i64 0, .string key, .string too, .string val, .int .u64 dl] 51)) (.cells #[.int .i64 1099511627776, .int .i64 1099511627776, .int .i64 0, .int .i64 0, .int .i64 0, .int .i64 0, .int .i64 0, .int .i64 0, .int .i64 0] 23))
  obtain ⟨c0, c1, c2, c3, c4, c5⟩ := cells6 Z0.out
  have y0 : W0.cell? ⟨w.heap.size + 1, 0, none⟩ = some (.int .i64 1099511627776) := cellh Y0.out rfl
  have y1 : W0.cell? ⟨w.heap.size + 1, 1, none⟩ = some (.int .i64 1099511627776) := cellh Y0.out rfl
  have y2 : W0.cell? ⟨w.heap.size + 1, 2, none⟩ = some (.int .i64 0) := cellh Y0.out rfl
  have y3 : W0.cell? ⟨w.heap.size + 1, 3, none⟩ = some (.int .i64 0) := cellh Y0.out rfl
  have y4 : W0.cell? ⟨w.heap.size + 1, 4, none⟩ = some (.int .i64 0) := cellh Y0.out rfl
  have y5 : W0.cell? ⟨w.heap.size + 1, 5, none⟩ = some (.int .i64 0) := cellh Y0.out rfl
  have y6 : W0.cell? ⟨w.heap.size + 1, 6, none⟩ = some (.int .i64 0) := cellh Y0.out rfl
  have y7 : W0.cell? ⟨w.heap.size + 1, 7, none⟩ = some (.int .i64 0) := cellh Y0.out rfl
  have y8 : W0.cell? ⟨w.heap.size + 1, 8, none⟩ = some (.int .i64 0) := cellh Y0.out rfl
  go_enter Tryz.func53, Tryz.ntmps53
  go_upto_region 2 with fail
  rw [← hW0]
  clear hW0
  have hcat : ¬ 9223372036854775807 < 7 + X.size := by have := HXS.out; omega
  have hcat2 : ¬ 9223372036854775807 < 7 + X.size + 1 := by have := HXS.out; omega
  go_wp2_with (first
    | (go_at_call 60; ((with_reducible refine (HC.out _).mono ?_); rintro e w1 ⟨rfl, b1⟩; have B1 := Lib.hid (bel_trans B0.out b1); have Z1 := Lib.hid (keep_bel b1 Z0.out); obtain ⟨c0, c1, c2, c3, c4, c5⟩ := cells6 Z1.out; clear b1))
    | (go_at_call 20; ((with_reducible refine (HX.out _).mono ?_); rintro e w2 ⟨rfl, b1⟩; have B2 := Lib.hid (bel_trans B1.out b1); clear b1))
    | fail)
  all_goals
    first
    | (exfalso; have := HXS.out; omega)
    | (refine bodyPost_ret (v := .tuple #[.string ((⟨#[100, 101, 108, 101, 116, 101, 32]⟩ ++ X) ++ ⟨#[10]⟩), .bool true]) (by simp [results, Tryz.results53, go_sem]) rfl ⟨rfl, B2.out⟩)
set_option maxHeartbeats 2000000 in
set_option maxRecDepth 100000 in
theorem rline_3 (d : Nat) (key too val : ByteArray) (w : World) (hkey : key.size ≤ 900000) (htoo : too.size ≤ 900000) (hval : val.size ≤ 900000) (hd : d ≤ 18446744073709551615) (hm : mF 3 (d : Int) 2147483647 2147483647 key too val ≠ 3) :
    Calls Tryz.prog 53 #[.agg #[.int .u8 3, .int .i64 0, .string key, .string too, .string val, .int .u64 (d : Int)]] w fun e w' => e = .returned (.tuple #[.string ⟨(lineL [wAdd, tokB key, utoaB d]).toArray⟩, .bool true]) ∧ Below w.heap.size w w' := by
  have HS := Lib.hid (And.intro hkey (And.intro htoo hval))
  have hm2 : mF 3 (d : Int) 1099511627776 1099511627776 key too val ≠ 3 := fun e => hm (mf_form _ _ e)
  obtain ⟨v, hv⟩ : ∃ v, mF 3 (d : Int) 1099511627776 1099511627776 key too val = v := ⟨_, rfl⟩
  have HC : Hid (∀ W, Calls Tryz.prog 60 #[.agg #[.int .u8 3, .int .i64 0, .string key, .string too, .string val, .int .u64 (d : Int)], cfg 1099511627776 1099511627776 0 0 0 0 0 0 0] W fun e w' => e = .returned (.int .i64 v) ∧ Below W.heap.size W w') := Lib.hid (fun W => by
    have := qmsg_any 3 0 (d : Int) 1099511627776 1099511627776 0 0 0 0 0 0 0 key too val W
    rw [hv] at this
    exact this)
  have hv3 : ¬ v = 3 := by rw [← hv]; exact hm2
  have HX := Lib.hid (fun W => rtoken_any key (by have := HS.out.1; omega) W)
  have HXS := Lib.hid (tok_sz4 hkey)
  have HY := Lib.hid (fun W => digits_any d hd W)
  have HYS := Lib.hid (Nat.le_trans (utoa_size d hd) (show 20 ≤ 2000000 by omega))
  have HE : Hid (⟨(lineL [wAdd, tokB key, utoaB d]).toArray⟩ = ((((⟨#[97, 100, 100, 32]⟩ ++ (tokB key)) ++ ⟨#[32]⟩) ++ (utoaB d)) ++ ⟨#[10]⟩)) := Lib.hid (ba_inj (by rw [line3, ba_app, ba_app, ba_app, ba_app, ba_list]; simp [wAdd]))
  rw [HE.out]
  clear HE
  generalize tokB key = X at HX HXS ⊢
  generalize utoaB d = Y at HY HYS ⊢
  clear hkey htoo hval hm hm2 hv hd
  obtain ⟨W0, hW0⟩ : ∃ W0, W0 = (w.alloc (.cells #[.int .u8 3, .int .i64 0, .string key, .string too, .string val, .int .u64 (d : Int)] 51)).alloc (.cells #[.int .i64 1099511627776, .int .i64 1099511627776, .int .i64 0, .int .i64 0, .int .i64 0, .int .i64 0, .int .i64 0, .int .i64 0, .int .i64 0] 23) := ⟨_, rfl⟩
  have B0 := Lib.hid (show Below w.heap.size w W0 by rw [hW0]; exact bel_alloc (alb w _) _)
  have Z0 := Lib.hid (show W0.heap[w.heap.size]? = some (.cells #[.int .u8 3, .int .i64 0, .string key, .string too, .string val, .int .u64 (d : Int)] 51) by rw [hW0]; exact keep_bel (alb _ _) (heap_alloc_new w _))
  have Y0 := Lib.hid (show W0.heap[w.heap.size + 1]? = some (.cells #[.int .i64 1099511627776, .int .i64 1099511627776, .int .i64 0, .int .i64 0, .int .i64 0, .int .i64 0, .int .i64 0, .int .i64 0, .int .i64 0] 23) by rw [hW0]; simpa using heap_alloc_new (w.alloc (.cells #[.int .u8 3, .int .i64 0, .string key, .string too, .string val, .int .u64 (d : Int)] 51)) (.cells #[.int .i64 1099511627776, .int .i64 1099511627776, .int .i64 0, .int .i64 0, .int .i64 0, .int .i64 0, .int .i64 0, .int .i64 0, .int .i64 0] 23))
  obtain ⟨c0, c1, c2, c3, c4, c5⟩ := cells6 Z0.out
  have y0 : W0.cell? ⟨w.heap.size + 1, 0, none⟩ = some (.int .i64 1099511627776) := cellh Y0.out rfl
  have y1 : W0.cell? ⟨w.heap.size + 1, 1, none⟩ = some (.int .i64 1099511627776) := cellh Y0.out rfl
  have y2 : W0.cell? ⟨w.heap.size + 1, 2, none⟩ = some (.int .i64 0) := cellh Y0.out rfl
  have y3 : W0.cell? ⟨w.heap.size + 1, 3, none⟩ = some (.int .i64 0) := cellh Y0.out rfl
  have y4 : W0.cell? ⟨w.heap.size + 1, 4, none⟩ = some (.int .i64 0) := cellh Y0.out rfl
  have y5 : W0.cell? ⟨w.heap.size + 1, 5, none⟩ = some (.int .i64 0) := cellh Y0.out rfl
  have y6 : W0.cell? ⟨w.heap.size + 1, 6, none⟩ = some (.int .i64 0) := cellh Y0.out rfl
  have y7 : W0.cell? ⟨w.heap.size + 1, 7, none⟩ = some (.int .i64 0) := cellh Y0.out rfl
  have y8 : W0.cell? ⟨w.heap.size + 1, 8, none⟩ = some (.int .i64 0) := cellh Y0.out rfl
  go_enter Tryz.func53, Tryz.ntmps53
  go_upto_region 2 with fail
  rw [← hW0]
  clear hW0
  go_upto_region 9 with (first
    | (go_at_call 60; ((with_reducible refine (HC.out _).mono ?_); rintro e w1 ⟨rfl, b1⟩; have B1 := Lib.hid (bel_trans B0.out b1); have Z1 := Lib.hid (keep_bel b1 Z0.out); obtain ⟨c0, c1, c2, c3, c4, c5⟩ := cells6 Z1.out; clear b1))
    | fail)
  clear c0 c1 c2 c3 c4 c5 y0 y1 y2 y3 y4 y5 y6 y7 y8
  refine wp_region_held_drew (S := (fun V : World => V.heap[w.heap.size]? = some (.cells #[.int .u8 3, .int .i64 0, .string key, .string too, .string val, .int .u64 (d : Int)] 51))) (by kernel_rfl) ?_ (fun hHeld => ?_)
  · exact Z1.out
  have HHeld := Lib.hid hHeld; clear hHeld
  refine wT (i := 0) (oi := { dst := some 39, op := Op.fieldAddr 51 (Operand.tmp 1) 2, type := 0, pos := "ref.go:87", after := #[], guard := none }) (v := ?_) rfl (Or.inl ⟨by rfl, ?_⟩) HHeld.out ?_
  rotate_left
  · intro w hSw; clear hSw; go_simp; try with_reducible rfl
  try simp only [pu, pn, s1, s2, s3]
  refine wT (i := 1) (oi := { dst := some 40, op := Op.load 9 (Operand.tmp 39), type := 9, pos := "ref.go:87", after := #[{ on := 0, ground := Ground.data }], guard := none }) (v := (.string key : Value)) rfl (Or.inl ⟨by rfl, ?_⟩) HHeld.out ?_
  · intro V hV; have hc0 := cellh hV (i := 2) rfl; clear hV; go_simp
  try simp only [pu, pn, s1, s2, s3]
  refine wT (i := 5) (oi := { dst := some 44, op := Op.fieldAddr 51 (Operand.tmp 1) 5, type := 0, pos := "ref.go:87", after := #[], guard := none }) (v := ?_) rfl (Or.inl ⟨by rfl, ?_⟩) HHeld.out ?_
  rotate_left
  · intro w hSw; clear hSw; go_simp; try with_reducible rfl
  try simp only [pu, pn, s1, s2, s3]
  refine wT (i := 6) (oi := { dst := some 45, op := Op.load 49 (Operand.tmp 44), type := 49, pos := "ref.go:87", after := #[{ on := 5, ground := Ground.data }], guard := none }) (v := (.int .u64 (d : Int) : Value)) rfl (Or.inl ⟨by rfl, ?_⟩) HHeld.out ?_
  · intro V hV; have hc0 := cellh hV (i := 5) rfl; clear hV; go_simp
  try simp only [pu, pn, s1, s2, s3]
  refine wpAnyH_ready (rs := [2]) (by kernel_rfl) (by simp) ?_
  refine AllReadyH.cons (o := { dst := some 41, op := Op.call { callee := Callee.value (Operand.func 20), args := #[Operand.tmp 40], argTypes := #[9] }, type := 9, pos := "ref.go:87", after := #[{ on := 1, ground := Ground.data }], guard := none }) rfl (fun K hK => ?_) AllReadyH.nil
  go_simp
  go_at_call 20; ((with_reducible refine (HX.out _).mono ?_); rintro e w2 ⟨rfl, bb⟩; have B2 := Lib.hid (bel_trans B1.out (bel_dr bb)); have Z2 := Lib.hid (keep_bel bb HHeld.out); clear bb)
  refine hK.out _ _ ?_ (fun hHeld => ?_)
  · exact Z2.out
  clear HHeld; have HHeld := Lib.hid hHeld; clear hHeld
  clear hK K
  try simp only [pu, pn, s1, s2, s3]
  refine wT (i := 3) (oi := { dst := some 42, op := Op.binOp BinOp.add 9 (Operand.const (Value.string { data := #[97, 100, 100, 32] })) (Operand.tmp 41) 9, type := 9, pos := "ref.go:87", after := #[{ on := 2, ground := Ground.data }], guard := none }) (v := (.string (⟨#[97, 100, 100, 32]⟩ ++ X) : Value)) rfl (Or.inl ⟨by rfl, ?_⟩) HHeld.out ?_
  · intro V hV; clear hV; have hsx := HXS.out; have hsy := HYS.out; go_simp; omega
  try simp only [pu, pn, s1, s2, s3]
  refine wT (i := 4) (oi := { dst := some 43, op := Op.binOp BinOp.add 9 (Operand.tmp 42) (Operand.const (Value.string { data := #[32] })) 9, type := 9, pos := "ref.go:87", after := #[{ on := 3, ground := Ground.data }], guard := none }) (v := (.string ((⟨#[97, 100, 100, 32]⟩ ++ X) ++ ⟨#[32]⟩) : Value)) rfl (Or.inl ⟨by rfl, ?_⟩) HHeld.out ?_
  · intro V hV; clear hV; have hsx := HXS.out; have hsy := HYS.out; go_simp; omega
  try simp only [pu, pn, s1, s2, s3]
  refine wpAnyH_ready (rs := [7]) (by kernel_rfl) (by simp) ?_
  refine AllReadyH.cons (o := { dst := some 46, op := Op.call { callee := Callee.value (Operand.func 52), args := #[Operand.tmp 45], argTypes := #[49] }, type := 9, pos := "ref.go:87", after := #[{ on := 6, ground := Ground.data }, { on := 2, ground := Ground.chain }], guard := none }) rfl (fun K hK => ?_) AllReadyH.nil
  go_simp
  go_at_call 52; ((with_reducible refine (HY.out _).mono ?_); rintro e w3 ⟨rfl, rfl⟩)
  refine hK.out _ _ ?_ (fun hHeld => ?_)
  · exact HHeld.out
  clear HHeld; have HHeld := Lib.hid hHeld; clear hHeld
  clear hK K
  try simp only [pu, pn, s1, s2, s3]
  refine wT (i := 8) (oi := { dst := some 47, op := Op.binOp BinOp.add 9 (Operand.tmp 43) (Operand.tmp 46) 9, type := 9, pos := "ref.go:87", after := #[{ on := 4, ground := Ground.data }, { on := 7, ground := Ground.data }], guard := none }) (v := (.string (((⟨#[97, 100, 100, 32]⟩ ++ X) ++ ⟨#[32]⟩) ++ Y) : Value)) rfl (Or.inl ⟨by rfl, ?_⟩) HHeld.out ?_
  · intro V hV; clear hV; have hsx := HXS.out; have hsy := HYS.out; go_simp; omega
  try simp only [pu, pn, s1, s2, s3]
  refine wT (i := 9) (oi := { dst := some 48, op := Op.binOp BinOp.add 9 (Operand.tmp 47) (Operand.const (Value.string { data := #[10] })) 9, type := 9, pos := "ref.go:87", after := #[{ on := 8, ground := Ground.data }], guard := none }) (v := (.string ((((⟨#[97, 100, 100, 32]⟩ ++ X) ++ ⟨#[32]⟩) ++ Y) ++ ⟨#[10]⟩) : Value)) rfl (Or.inl ⟨by rfl, ?_⟩) HHeld.out ?_
  · intro V hV; clear hV; have hsx := HXS.out; have hsy := HYS.out; go_simp; omega
  try simp only [pu, pn, s1, s2, s3]
  refine wT (i := 10) (oi := { dst := some 2, op := Op.assign (Operand.tmp 48), type := 9, pos := "ref.go:87", after := #[{ on := 9, ground := Ground.data }, { on := 7, ground := Ground.chain }, { on := 0, ground := Ground.phase }, { on := 1, ground := Ground.phase }, { on := 2, ground := Ground.phase }, { on := 3, ground := Ground.phase }, { on := 4, ground := Ground.phase }, { on := 5, ground := Ground.phase }, { on := 6, ground := Ground.phase }, { on := 7, ground := Ground.phase }, { on := 8, ground := Ground.phase }, { on := 9, ground := Ground.phase }], guard := none }) (v := ?_) rfl (Or.inl ⟨by rfl, ?_⟩) HHeld.out ?_
  rotate_left
  · intro w hSw; clear hSw; go_simp; try with_reducible rfl
  try simp only [pu, pn, s1, s2, s3]
  refine wT (i := 11) (oi := { dst := some 3, op := Op.assign (Operand.const (Value.bool true)), type := 4, pos := "ref.go:87", after := #[{ on := 10, ground := Ground.chain }, { on := 0, ground := Ground.phase }, { on := 1, ground := Ground.phase }, { on := 2, ground := Ground.phase }, { on := 3, ground := Ground.phase }, { on := 4, ground := Ground.phase }, { on := 5, ground := Ground.phase }, { on := 6, ground := Ground.phase }, { on := 7, ground := Ground.phase }, { on := 8, ground := Ground.phase }, { on := 9, ground := Ground.phase }, { on := 10, ground := Ground.phase }], guard := none }) (v := ?_) rfl (Or.inl ⟨by rfl, ?_⟩) HHeld.out ?_
  rotate_left
  · intro w hSw; clear hSw; go_simp; try with_reducible rfl
  try simp only [pu, pn, s1, s2, s3]
  refine wpAnyH_done (by kernel_rfl) ?_ _
  clear HHeld
  go_wp2
  refine bodyPost_ret (v := .tuple #[.string ((((⟨#[97, 100, 100, 32]⟩ ++ X) ++ ⟨#[32]⟩) ++ Y) ++ ⟨#[10]⟩), .bool true]) (by simp [results, Tryz.results53, go_sem]) rfl ⟨rfl, B2.out⟩
set_option maxHeartbeats 2000000 in
set_option maxRecDepth 100000 in
theorem rline_4 (dl : Int) (key too val : ByteArray) (w : World) (hkey : key.size ≤ 900000) (htoo : too.size ≤ 900000) (hval : val.size ≤ 900000) (hm : mF 4 dl 2147483647 2147483647 key too val ≠ 3) :
    Calls Tryz.prog 53 #[.agg #[.int .u8 4, .int .i64 0, .string key, .string too, .string val, .int .u64 dl]] w fun e w' => e = .returned (.tuple #[.string ⟨(lineL [wClr, tokB key, tokB too]).toArray⟩, .bool true]) ∧ Below w.heap.size w w' := by
  have HS := Lib.hid (And.intro hkey (And.intro htoo hval))
  have hm2 : mF 4 dl 1099511627776 1099511627776 key too val ≠ 3 := fun e => hm (mf_form _ _ e)
  obtain ⟨v, hv⟩ : ∃ v, mF 4 dl 1099511627776 1099511627776 key too val = v := ⟨_, rfl⟩
  have HC : Hid (∀ W, Calls Tryz.prog 60 #[.agg #[.int .u8 4, .int .i64 0, .string key, .string too, .string val, .int .u64 dl], cfg 1099511627776 1099511627776 0 0 0 0 0 0 0] W fun e w' => e = .returned (.int .i64 v) ∧ Below W.heap.size W w') := Lib.hid (fun W => by
    have := qmsg_any 4 0 dl 1099511627776 1099511627776 0 0 0 0 0 0 0 key too val W
    rw [hv] at this
    exact this)
  have hv3 : ¬ v = 3 := by rw [← hv]; exact hm2
  have HX := Lib.hid (fun W => rtoken_any key (by have := HS.out.1; omega) W)
  have HXS := Lib.hid (tok_sz4 hkey)
  have HY := Lib.hid (fun W => rtoken_any too (by have := HS.out.2.1; omega) W)
  have HYS := Lib.hid (tok_sz4 htoo)
  have HE : Hid (⟨(lineL [wClr, tokB key, tokB too]).toArray⟩ = ((((⟨#[99, 108, 101, 97, 114, 32]⟩ ++ (tokB key)) ++ ⟨#[32]⟩) ++ (tokB too)) ++ ⟨#[10]⟩)) := Lib.hid (ba_inj (by rw [line3, ba_app, ba_app, ba_app, ba_app, ba_list]; simp [wClr]))
  rw [HE.out]
  clear HE
  generalize tokB key = X at HX HXS ⊢
  generalize tokB too = Y at HY HYS ⊢
  clear hkey htoo hval hm hm2 hv
  obtain ⟨W0, hW0⟩ : ∃ W0, W0 = (w.alloc (.cells #[.int .u8 4, .int .i64 0, .string key, .string too, .string val, .int .u64 dl] 51)).alloc (.cells #[.int .i64 1099511627776, .int .i64 1099511627776, .int .i64 0, .int .i64 0, .int .i64 0, .int .i64 0, .int .i64 0, .int .i64 0, .int .i64 0] 23) := ⟨_, rfl⟩
  have B0 := Lib.hid (show Below w.heap.size w W0 by rw [hW0]; exact bel_alloc (alb w _) _)
  have Z0 := Lib.hid (show W0.heap[w.heap.size]? = some (.cells #[.int .u8 4, .int .i64 0, .string key, .string too, .string val, .int .u64 dl] 51) by rw [hW0]; exact keep_bel (alb _ _) (heap_alloc_new w _))
  have Y0 := Lib.hid (show W0.heap[w.heap.size + 1]? = some (.cells #[.int .i64 1099511627776, .int .i64 1099511627776, .int .i64 0, .int .i64 0, .int .i64 0, .int .i64 0, .int .i64 0, .int .i64 0, .int .i64 0] 23) by rw [hW0]; simpa using heap_alloc_new (w.alloc (.cells #[.int .u8 4, .int .i64 0, .string key, .string too, .string val, .int .u64 dl] 51)) (.cells #[.int .i64 1099511627776, .int .i64 1099511627776, .int .i64 0, .int .i64 0, .int .i64 0, .int .i64 0, .int .i64 0, .int .i64 0, .int .i64 0] 23))
  obtain ⟨c0, c1, c2, c3, c4, c5⟩ := cells6 Z0.out
  have y0 : W0.cell? ⟨w.heap.size + 1, 0, none⟩ = some (.int .i64 1099511627776) := cellh Y0.out rfl
  have y1 : W0.cell? ⟨w.heap.size + 1, 1, none⟩ = some (.int .i64 1099511627776) := cellh Y0.out rfl
  have y2 : W0.cell? ⟨w.heap.size + 1, 2, none⟩ = some (.int .i64 0) := cellh Y0.out rfl
  have y3 : W0.cell? ⟨w.heap.size + 1, 3, none⟩ = some (.int .i64 0) := cellh Y0.out rfl
  have y4 : W0.cell? ⟨w.heap.size + 1, 4, none⟩ = some (.int .i64 0) := cellh Y0.out rfl
  have y5 : W0.cell? ⟨w.heap.size + 1, 5, none⟩ = some (.int .i64 0) := cellh Y0.out rfl
  have y6 : W0.cell? ⟨w.heap.size + 1, 6, none⟩ = some (.int .i64 0) := cellh Y0.out rfl
  have y7 : W0.cell? ⟨w.heap.size + 1, 7, none⟩ = some (.int .i64 0) := cellh Y0.out rfl
  have y8 : W0.cell? ⟨w.heap.size + 1, 8, none⟩ = some (.int .i64 0) := cellh Y0.out rfl
  go_enter Tryz.func53, Tryz.ntmps53
  go_upto_region 2 with fail
  rw [← hW0]
  clear hW0
  go_upto_region 10 with (first
    | (go_at_call 60; ((with_reducible refine (HC.out _).mono ?_); rintro e w1 ⟨rfl, b1⟩; have B1 := Lib.hid (bel_trans B0.out b1); have Z1 := Lib.hid (keep_bel b1 Z0.out); obtain ⟨c0, c1, c2, c3, c4, c5⟩ := cells6 Z1.out; clear b1))
    | fail)
  clear c0 c1 c2 c3 c4 c5 y0 y1 y2 y3 y4 y5 y6 y7 y8
  refine wp_region_held_drew (S := (fun V : World => V.heap[w.heap.size]? = some (.cells #[.int .u8 4, .int .i64 0, .string key, .string too, .string val, .int .u64 dl] 51))) (by kernel_rfl) ?_ (fun hHeld => ?_)
  · exact Z1.out
  have HHeld := Lib.hid hHeld; clear hHeld
  refine wT (i := 0) (oi := { dst := some 49, op := Op.fieldAddr 51 (Operand.tmp 1) 2, type := 0, pos := "ref.go:89", after := #[], guard := none }) (v := ?_) rfl (Or.inl ⟨by rfl, ?_⟩) HHeld.out ?_
  rotate_left
  · intro w hSw; clear hSw; go_simp; try with_reducible rfl
  try simp only [pu, pn, s1, s2, s3]
  refine wT (i := 1) (oi := { dst := some 50, op := Op.load 9 (Operand.tmp 49), type := 9, pos := "ref.go:89", after := #[{ on := 0, ground := Ground.data }], guard := none }) (v := (.string key : Value)) rfl (Or.inl ⟨by rfl, ?_⟩) HHeld.out ?_
  · intro V hV; have hc0 := cellh hV (i := 2) rfl; clear hV; go_simp
  try simp only [pu, pn, s1, s2, s3]
  refine wT (i := 5) (oi := { dst := some 54, op := Op.fieldAddr 51 (Operand.tmp 1) 3, type := 0, pos := "ref.go:89", after := #[], guard := none }) (v := ?_) rfl (Or.inl ⟨by rfl, ?_⟩) HHeld.out ?_
  rotate_left
  · intro w hSw; clear hSw; go_simp; try with_reducible rfl
  try simp only [pu, pn, s1, s2, s3]
  refine wT (i := 6) (oi := { dst := some 55, op := Op.load 9 (Operand.tmp 54), type := 9, pos := "ref.go:89", after := #[{ on := 5, ground := Ground.data }], guard := none }) (v := (.string too : Value)) rfl (Or.inl ⟨by rfl, ?_⟩) HHeld.out ?_
  · intro V hV; have hc0 := cellh hV (i := 3) rfl; clear hV; go_simp
  try simp only [pu, pn, s1, s2, s3]
  refine wpAnyH_ready (rs := [2]) (by kernel_rfl) (by simp) ?_
  refine AllReadyH.cons (o := { dst := some 51, op := Op.call { callee := Callee.value (Operand.func 20), args := #[Operand.tmp 50], argTypes := #[9] }, type := 9, pos := "ref.go:89", after := #[{ on := 1, ground := Ground.data }], guard := none }) rfl (fun K hK => ?_) AllReadyH.nil
  go_simp
  go_at_call 20; ((with_reducible refine (HX.out _).mono ?_); rintro e w2 ⟨rfl, bb⟩; have B2 := Lib.hid (bel_trans B1.out (bel_dr bb)); have Z2 := Lib.hid (keep_bel bb HHeld.out); clear bb)
  refine hK.out _ _ ?_ (fun hHeld => ?_)
  · exact Z2.out
  clear HHeld; have HHeld := Lib.hid hHeld; clear hHeld
  clear hK K
  try simp only [pu, pn, s1, s2, s3]
  refine wT (i := 3) (oi := { dst := some 52, op := Op.binOp BinOp.add 9 (Operand.const (Value.string { data := #[99, 108, 101, 97, 114, 32] })) (Operand.tmp 51) 9, type := 9, pos := "ref.go:89", after := #[{ on := 2, ground := Ground.data }], guard := none }) (v := (.string (⟨#[99, 108, 101, 97, 114, 32]⟩ ++ X) : Value)) rfl (Or.inl ⟨by rfl, ?_⟩) HHeld.out ?_
  · intro V hV; clear hV; have hsx := HXS.out; have hsy := HYS.out; go_simp; omega
  try simp only [pu, pn, s1, s2, s3]
  refine wT (i := 4) (oi := { dst := some 53, op := Op.binOp BinOp.add 9 (Operand.tmp 52) (Operand.const (Value.string { data := #[32] })) 9, type := 9, pos := "ref.go:89", after := #[{ on := 3, ground := Ground.data }], guard := none }) (v := (.string ((⟨#[99, 108, 101, 97, 114, 32]⟩ ++ X) ++ ⟨#[32]⟩) : Value)) rfl (Or.inl ⟨by rfl, ?_⟩) HHeld.out ?_
  · intro V hV; clear hV; have hsx := HXS.out; have hsy := HYS.out; go_simp; omega
  try simp only [pu, pn, s1, s2, s3]
  refine wpAnyH_ready (rs := [7]) (by kernel_rfl) (by simp) ?_
  refine AllReadyH.cons (o := { dst := some 56, op := Op.call { callee := Callee.value (Operand.func 20), args := #[Operand.tmp 55], argTypes := #[9] }, type := 9, pos := "ref.go:89", after := #[{ on := 6, ground := Ground.data }, { on := 2, ground := Ground.chain }], guard := none }) rfl (fun K hK => ?_) AllReadyH.nil
  go_simp
  go_at_call 20; ((with_reducible refine (HY.out _).mono ?_); rintro e w3 ⟨rfl, bb⟩; have B3 := Lib.hid (bel_trans B2.out (bb)); have Z3 := Lib.hid (keep_bel bb HHeld.out); clear bb)
  refine hK.out _ _ ?_ (fun hHeld => ?_)
  · exact Z3.out
  clear HHeld; have HHeld := Lib.hid hHeld; clear hHeld
  clear hK K
  try simp only [pu, pn, s1, s2, s3]
  refine wT (i := 8) (oi := { dst := some 57, op := Op.binOp BinOp.add 9 (Operand.tmp 53) (Operand.tmp 56) 9, type := 9, pos := "ref.go:89", after := #[{ on := 4, ground := Ground.data }, { on := 7, ground := Ground.data }], guard := none }) (v := (.string (((⟨#[99, 108, 101, 97, 114, 32]⟩ ++ X) ++ ⟨#[32]⟩) ++ Y) : Value)) rfl (Or.inl ⟨by rfl, ?_⟩) HHeld.out ?_
  · intro V hV; clear hV; have hsx := HXS.out; have hsy := HYS.out; go_simp; omega
  try simp only [pu, pn, s1, s2, s3]
  refine wT (i := 9) (oi := { dst := some 58, op := Op.binOp BinOp.add 9 (Operand.tmp 57) (Operand.const (Value.string { data := #[10] })) 9, type := 9, pos := "ref.go:89", after := #[{ on := 8, ground := Ground.data }], guard := none }) (v := (.string ((((⟨#[99, 108, 101, 97, 114, 32]⟩ ++ X) ++ ⟨#[32]⟩) ++ Y) ++ ⟨#[10]⟩) : Value)) rfl (Or.inl ⟨by rfl, ?_⟩) HHeld.out ?_
  · intro V hV; clear hV; have hsx := HXS.out; have hsy := HYS.out; go_simp; omega
  try simp only [pu, pn, s1, s2, s3]
  refine wT (i := 10) (oi := { dst := some 2, op := Op.assign (Operand.tmp 58), type := 9, pos := "ref.go:89", after := #[{ on := 9, ground := Ground.data }, { on := 7, ground := Ground.chain }, { on := 0, ground := Ground.phase }, { on := 1, ground := Ground.phase }, { on := 2, ground := Ground.phase }, { on := 3, ground := Ground.phase }, { on := 4, ground := Ground.phase }, { on := 5, ground := Ground.phase }, { on := 6, ground := Ground.phase }, { on := 7, ground := Ground.phase }, { on := 8, ground := Ground.phase }, { on := 9, ground := Ground.phase }], guard := none }) (v := ?_) rfl (Or.inl ⟨by rfl, ?_⟩) HHeld.out ?_
  rotate_left
  · intro w hSw; clear hSw; go_simp; try with_reducible rfl
  try simp only [pu, pn, s1, s2, s3]
  refine wT (i := 11) (oi := { dst := some 3, op := Op.assign (Operand.const (Value.bool true)), type := 4, pos := "ref.go:89", after := #[{ on := 10, ground := Ground.chain }, { on := 0, ground := Ground.phase }, { on := 1, ground := Ground.phase }, { on := 2, ground := Ground.phase }, { on := 3, ground := Ground.phase }, { on := 4, ground := Ground.phase }, { on := 5, ground := Ground.phase }, { on := 6, ground := Ground.phase }, { on := 7, ground := Ground.phase }, { on := 8, ground := Ground.phase }, { on := 9, ground := Ground.phase }, { on := 10, ground := Ground.phase }], guard := none }) (v := ?_) rfl (Or.inl ⟨by rfl, ?_⟩) HHeld.out ?_
  rotate_left
  · intro w hSw; clear hSw; go_simp; try with_reducible rfl
  try simp only [pu, pn, s1, s2, s3]
  refine wpAnyH_done (by kernel_rfl) ?_ _
  clear HHeld
  go_wp2
  refine bodyPost_ret (v := .tuple #[.string ((((⟨#[99, 108, 101, 97, 114, 32]⟩ ++ X) ++ ⟨#[32]⟩) ++ Y) ++ ⟨#[10]⟩), .bool true]) (by simp [results, Tryz.results53, go_sem]) rfl ⟨rfl, B3.out⟩
end Go.Proofs.YtelpkajlejbbgaaGreatDoor
