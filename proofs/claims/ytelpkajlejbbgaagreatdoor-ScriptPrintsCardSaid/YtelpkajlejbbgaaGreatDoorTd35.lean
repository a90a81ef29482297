/- Texts of the proof, one behind the other. -/
import Derived.Test.YtelpkajlejbbgaaGreatDoorTd01
import Derived.Test.YtelpkajlejbbgaaGreatDoorTd31
import Derived.Test.YtelpkajlejbbgaaGreatDoorTd32
import Derived.Test.YtelpkajlejbbgaaGreatDoorTd33
import Derived.Test.YtelpkajlejbbgaaGreatDoorTd34
import Derived.Test.YtelpkajlejbbgaaGreatDoorRows
import Derived.Test.YtelpkajlejbbgaaGreatDoorTie
import Derived.WalkKit
import Derived.ProofKit
import Derived.OpenShut
import Derived.LaidMore
import Derived.Lay
import Derived.Lib.LaidTab
import Derived.Lib.LaidU8
import Derived.SevenTiedAt
import Derived.Stop.Joined
import Derived.Handed
import Derived.HandedShaped
import Derived.Shelf.Vars
set_option linter.unusedVariables false
set_option linter.unusedSimpArgs false
namespace Go.Proofs.YtelpkajlejbbgaaGreatDoor
open Go.RowKit Go.Maps
/-- A call's contract, in every later world. -/
def CQ (w : World) (f : Nat) (args : Array Value) (v : Value) : Prop := ∀ W, Below w.heap.size w W → Calls Tryz.prog f args W fun e w' => e = .returned v ∧ Below W.heap.size W w'
/-- What is known of the scripts. -/
theorem both_print {x : ScV} {v : Value} {w : World} (hg : GW w) (hR : ScR w x v) (hf : FewP x) (hi : ScIn x) : ∃ (S : ByteArray) (er : Int), CQ w 10 #[v] (.tuple #[.string S, .int .i64 er]) ∧ CQ w 11 #[v] (.tuple #[.string S, .int .i64 er]) := by
  by_cases h : GoodS x
  · obtain ⟨a0, a1, a2, a3, a4, a5, a6, a7, a8, A, c, B, d, hs, hcf, _⟩ := hR.h
    have ht := pr_300 hf hi (by rw [hcf]; rfl)
    exact ⟨_, _, fun W hW => print_of (hg.later hW) (hR.later hW) (sfm_of hf h) (fun r hr o ho => ook_of (h.2.1 r hr o ho).1 (osz_of (hf.op r hr o ho) (hi.op r hr o ho))) (by omega), fun W hW => rprint_good (hR.later hW) hf hi h⟩
  · exact ⟨_, _, fun W hW => print_bad (hg.later hW) (hR.later hW) hf h, fun W hW => rprint_three (hR.later hW) hf hi h⟩
theorem both_check {x : ScV} {v : Value} {w : World} (hR : ScR w x v) (hf : FewP x) : ∃ t1 t2 t3 : Int, CQ w 12 #[v] (.tuple #[.int .i64 t1, .int .i64 t2, .int .i64 t3]) ∧ CQ w 13 #[v] (.tuple #[.int .i64 t1, .int .i64 t2, .int .i64 t3]) := by
  obtain ⟨a0, a1, a2, a3, a4, a5, a6, a7, a8, A, c, B, d, hs, hcf, rfl, hA, hW, hB⟩ := hR.h
  obtain ⟨⟨t1, t2, t3⟩, ht⟩ : ∃ t, chkF a0 a1 a2 a3 a4 a5 a6 a7 a8 x.rows = t := ⟨_, rfl⟩
  have hl : ∀ r ∈ x.rows, r.length ≤ 1000 := fun r hr => by have := hf.ol r hr; omega
  have hX : AllX w A x.rows.length x.rows := ⟨rfl, hs, hA, hW⟩
  exact ⟨t1, t2, t3, fun W h => pchk_any a0 a1 a2 a3 a4 a5 a6 a7 a8 A B _ c _ d x.rows t1 t2 t3 W ht hl (hX.later h), fun W h => rchk_any a0 a1 a2 a3 a4 a5 a6 a7 a8 A B _ c _ d x.rows t1 t2 t3 W ht hl (hX.later h)⟩
theorem both_same {x y : ScV} {v u : Value} {w : World} (hv : ScR w x v) (hu : ScR w y u) (hf : FewP x) : ∃ b : Bool, CQ w 14 #[v, u] (.bool b) ∧ CQ w 15 #[v, u] (.bool b) := by
  obtain ⟨b, hb⟩ := eq_bool x y
  exact ⟨b, fun W h => psame_any hb (hv.later h) (hu.later h) hf, fun W h => rsame_any hb (hv.later h) (hu.later h) hf⟩
set_option maxRecDepth 100000 in
set_option maxHeartbeats 4000000 in
theorem prints_walk (x y : ScV) (a0 a1 a2 a3 a4 a5 a6 a7 a8 b0 b1 b2 b3 b4 b5 b6 b7 b8 : Int) (A B A' B' : Option Addr) (n c m d n' c' m' d' : Nat) (w : World) (hg : GW w) (hR : ScR w x (.agg #[.int .i64 a0, .int .i64 a1, .int .i64 a2, .int .i64 a3, .int .i64 a4, .int .i64 a5, .int .i64 a6, .int .i64 a7, .int .i64 a8, .slice A n c, .slice B m d])) (hS : ScR w y (.agg #[.int .i64 b0, .int .i64 b1, .int .i64 b2, .int .i64 b3, .int .i64 b4, .int .i64 b5, .int .i64 b6, .int .i64 b7, .int .i64 b8, .slice A' n' c', .slice B' m' d'])) (hi : ScIn x) (hj : ScIn y) :
    Calls Tryz.prog 3 #[.agg #[.int .i64 a0, .int .i64 a1, .int .i64 a2, .int .i64 a3, .int .i64 a4, .int .i64 a5, .int .i64 a6, .int .i64 a7, .int .i64 a8, .slice A n c, .slice B m d], .agg #[.int .i64 b0, .int .i64 b1, .int .i64 b2, .int .i64 b3, .int .i64 b4, .int .i64 b5, .int .i64 b6, .int .i64 b7, .int .i64 b8, .slice A' n' c', .slice B' m' d']] w fun e w' => e = .returned (.bool true) ∧ Below w.heap.size w w' := by
  have HLV := live_tup hg
  obtain ⟨W1, hW1⟩ : ∃ W1, W1 = (w.alloc (.cells #[.int .i64 a0, .int .i64 a1, .int .i64 a2, .int .i64 a3, .int .i64 a4, .int .i64 a5, .int .i64 a6, .int .i64 a7, .int .i64 a8, .slice A n c, .slice B m d] 27)).alloc (.cells #[.int .i64 b0, .int .i64 b1, .int .i64 b2, .int .i64 b3, .int .i64 b4, .int .i64 b5, .int .i64 b6, .int .i64 b7, .int .i64 b8, .slice A' n' c', .slice B' m' d'] 27) := ⟨_, rfl⟩
  have B1 := Lib.hid (show Below w.heap.size w W1 by rw [hW1]; exact bel_alloc (alb w _) _)
  have Z1 := Lib.hid (show W1.heap[w.heap.size]? = some (.cells #[.int .i64 a0, .int .i64 a1, .int .i64 a2, .int .i64 a3, .int .i64 a4, .int .i64 a5, .int .i64 a6, .int .i64 a7, .int .i64 a8, .slice A n c, .slice B m d] 27) by rw [hW1]; exact keep_bel (alb _ _) (heap_alloc_new w _))
  have Y1 := Lib.hid (show W1.heap[w.heap.size + 1]? = some (.cells #[.int .i64 b0, .int .i64 b1, .int .i64 b2, .int .i64 b3, .int .i64 b4, .int .i64 b5, .int .i64 b6, .int .i64 b7, .int .i64 b8, .slice A' n' c', .slice B' m' d'] 27) by rw [hW1]; simpa using heap_alloc_new (w.alloc (.cells #[.int .i64 a0, .int .i64 a1, .int .i64 a2, .int .i64 a3, .int .i64 a4, .int .i64 a5, .int .i64 a6, .int .i64 a7, .int .i64 a8, .slice A n c, .slice B m d] 27)) (.cells #[.int .i64 b0, .int .i64 b1, .int .i64 b2, .int .i64 b3, .int .i64 b4, .int .i64 b5, .int .i64 b6, .int .i64 b7, .int .i64 b8, .slice A' n' c', .slice B' m' d'] 27))
  obtain ⟨c0, c1, c2, c3, c4, c5, c6, c7, c8, c9, c10⟩ := cells11 Z1.out
  obtain ⟨d0, d1, d2, d3, d4, d5, d6, d7, d8, d9, d10⟩ := cells11 Y1.out
  by_cases hf : FewP x
  rotate_left
  · have HF := Lib.hid (fun W (h : Below w.heap.size w W) => few_no (hR.later h) hf)
    clear hg hR hS hi hj hf
    go_enter Tryz.func3, Tryz.ntmps3
    go_upto_region 1 with fail
    rw [← hW1]
    clear hW1
    go_wp2_with (first
      | (go_at_call 8; ((with_reducible refine (HF.out _ B1.out).mono ?_); rintro e w2 ⟨rfl, b2⟩; have B2 := Lib.hid (bel_trans B1.out b2); clear b2))
      | (go_at_call 9; ((refine (HLV.out _ B2.out).mono ?_); rintro e w3 ⟨rfl, b3⟩; have B3 := Lib.hid (bel_trans B2.out b3); clear b3))
      | fail)
    exact bodyPost_ret (v := .bool true) (by simp [results, Tryz.results3, go_sem]) rfl ⟨rfl, B3.out⟩
  have HF := Lib.hid (fun W (h : Below w.heap.size w W) => few_yes (hR.later h) hf)
  by_cases hf2 : FewP y
  rotate_left
  · have HF2 := Lib.hid (fun W (h : Below w.heap.size w W) => few_no (hS.later h) hf2)
    clear hg hR hS hi hj hf hf2
    go_enter Tryz.func3, Tryz.ntmps3
    go_upto_region 1 with fail
    rw [← hW1]
    clear hW1
    go_wp2_with (first
      | (go_at_call 8; ((with_reducible refine (HF.out _ B1.out).mono ?_); rintro e w2 ⟨rfl, b2⟩; have B2 := Lib.hid (bel_trans B1.out b2); obtain ⟨d0, d1, d2, d3, d4, d5, d6, d7, d8, d9, d10⟩ := cells11 (keep_bel b2 Y1.out); clear b2))
      | (go_at_call 8; ((with_reducible refine (HF2.out _ B2.out).mono ?_); rintro e w3 ⟨rfl, b3⟩; have B3 := Lib.hid (bel_trans B2.out b3); clear b3))
      | (go_at_call 9; ((refine (HLV.out _ B3.out).mono ?_); rintro e w4 ⟨rfl, b4⟩; have B4 := Lib.hid (bel_trans B3.out b4); clear b4))
      | fail)
    exact bodyPost_ret (v := .bool true) (by simp [results, Tryz.results3, go_sem]) rfl ⟨rfl, B4.out⟩
  have HF2 := Lib.hid (fun W (h : Below w.heap.size w W) => few_yes (hS.later h) hf2)
  obtain ⟨S, er, h10, h11⟩ := both_print hg hR hf hi
  obtain ⟨t1, t2, t3, h12, h13⟩ := both_check hR hf
  obtain ⟨b, h14, h15⟩ := both_same hR hS hf
  have h16 : CQ w 14 #[.agg #[.int .i64 a0, .int .i64 a1, .int .i64 a2, .int .i64 a3, .int .i64 a4, .int .i64 a5, .int .i64 a6, .int .i64 a7, .int .i64 a8, .slice A n c, .slice B m d], .agg #[.int .i64 a0, .int .i64 a1, .int .i64 a2, .int .i64 a3, .int .i64 a4, .int .i64 a5, .int .i64 a6, .int .i64 a7, .int .i64 a8, .slice A n c, .slice B m d]] (.bool true) := fun W h => psame_any (by simp) (hR.later h) (hR.later h) hf
  unfold CQ at h10 h11 h12 h13 h14 h15 h16
  have H10 := Lib.hid h10
  have H11 := Lib.hid h11
  have H12 := Lib.hid h12
  have H13 := Lib.hid h13
  have H14 := Lib.hid h14
  have H15 := Lib.hid h15
  have H16 := Lib.hid h16
  clear hg hR hS hi hj hf hf2 h10 h11 h12 h13 h14 h15 h16
  go_enter Tryz.func3, Tryz.ntmps3
  go_upto_region 1 with fail
  rw [← hW1]
  clear hW1
  go_upto_region 3 with (first
    | (go_at_call 8; ((with_reducible refine (HF.out _ B1.out).mono ?_); rintro e w2 ⟨rfl, b2⟩; have B2 := Lib.hid (bel_trans B1.out b2); have Z2 := Lib.hid (keep_bel b2 Z1.out); have Y2 := Lib.hid (keep_bel b2 Y1.out); obtain ⟨d0, d1, d2, d3, d4, d5, d6, d7, d8, d9, d10⟩ := cells11 Y2.out; clear b2))
    | (go_at_call 8; ((with_reducible refine (HF2.out _ B2.out).mono ?_); rintro e w3 ⟨rfl, b3⟩; have B3 := Lib.hid (bel_trans B2.out b3); have Z3 := Lib.hid (keep_bel b3 Z2.out); have Y3 := Lib.hid (keep_bel b3 Y2.out); clear b3))
    | fail)
  clear c0 c1 c2 c3 c4 c5 c6 c7 c8 c9 c10 d0 d1 d2 d3 d4 d5 d6 d7 d8 d9 d10 HF HF2
  obtain ⟨c0, c1, c2, c3, c4, c5, c6, c7, c8, c9, c10⟩ := cells11 Z3.out
  go_upto_region 4 with (first
    | (go_at_call 10; ((with_reducible refine (H10.out _ B3.out).mono ?_); rintro e w4 ⟨rfl, b4⟩; have B4 := Lib.hid (bel_trans B3.out b4); have Z4 := Lib.hid (keep_bel b4 Z3.out); have Y4 := Lib.hid (keep_bel b4 Y3.out); clear b4))
    | fail)
  clear c0 c1 c2 c3 c4 c5 c6 c7 c8 c9 c10
  obtain ⟨c0, c1, c2, c3, c4, c5, c6, c7, c8, c9, c10⟩ := cells11 Z4.out
  go_upto_region 5 with (first
    | (go_at_call 11; ((with_reducible refine (H11.out _ B4.out).mono ?_); rintro e w5 ⟨rfl, b5⟩; have B5 := Lib.hid (bel_trans B4.out b5); have Z5 := Lib.hid (keep_bel b5 Z4.out); have Y5 := Lib.hid (keep_bel b5 Y4.out); clear b5))
    | fail)
  clear c0 c1 c2 c3 c4 c5 c6 c7 c8 c9 c10
  obtain ⟨c0, c1, c2, c3, c4, c5, c6, c7, c8, c9, c10⟩ := cells11 Z5.out
  go_upto_region 6 with (first
    | (go_at_call 12; ((with_reducible refine (H12.out _ B5.out).mono ?_); rintro e w6 ⟨rfl, b6⟩; have B6 := Lib.hid (bel_trans B5.out b6); have Z6 := Lib.hid (keep_bel b6 Z5.out); have Y6 := Lib.hid (keep_bel b6 Y5.out); clear b6))
    | fail)
  clear c0 c1 c2 c3 c4 c5 c6 c7 c8 c9 c10
  obtain ⟨c0, c1, c2, c3, c4, c5, c6, c7, c8, c9, c10⟩ := cells11 Z6.out
  go_upto_region 7 with (first
    | (go_at_call 13; ((with_reducible refine (H13.out _ B6.out).mono ?_); rintro e w7 ⟨rfl, b7⟩; have B7 := Lib.hid (bel_trans B6.out b7); have Z7 := Lib.hid (keep_bel b7 Z6.out); have Y7 := Lib.hid (keep_bel b7 Y6.out); clear b7))
    | fail)
  clear c0 c1 c2 c3 c4 c5 c6 c7 c8 c9 c10
  obtain ⟨c0, c1, c2, c3, c4, c5, c6, c7, c8, c9, c10⟩ := cells11 Z7.out
  obtain ⟨d0, d1, d2, d3, d4, d5, d6, d7, d8, d9, d10⟩ := cells11 Y7.out
  have HA0 := Lib.hid c0
  have HB0 := Lib.hid d0
  have HA1 := Lib.hid c1
  have HB1 := Lib.hid d1
  have HA2 := Lib.hid c2
  have HB2 := Lib.hid d2
  have HA3 := Lib.hid c3
  have HB3 := Lib.hid d3
  have HA4 := Lib.hid c4
  have HB4 := Lib.hid d4
  have HA5 := Lib.hid c5
  have HB5 := Lib.hid d5
  have HA6 := Lib.hid c6
  have HB6 := Lib.hid d6
  have HA7 := Lib.hid c7
  have HB7 := Lib.hid d7
  have HA8 := Lib.hid c8
  have HB8 := Lib.hid d8
  have HA9 := Lib.hid c9
  have HB9 := Lib.hid d9
  have HA10 := Lib.hid c10
  have HB10 := Lib.hid d10
  clear c0 c1 c2 c3 c4 c5 c6 c7 c8 c9 c10 d0 d1 d2 d3 d4 d5 d6 d7 d8 d9 d10
  refine wp_region_held_drew (S := (fun V : World => Below w7.heap.size w7 V)) (by kernel_rfl) ?_ (fun hHeld => ?_)
  · exact (Below.refl _ w7).drew
  have HHeld := Lib.hid hHeld; clear hHeld
  refine wpAnyH_ready (rs := [0]) (by kernel_rfl) (by simp) ?_
  refine AllReadyH.cons (o := { dst := some 46, op := Op.call { callee := Callee.value (Operand.func 9), args := #[], argTypes := #[] }, type := 4, pos := "law.go:51", after := #[], guard := none }) rfl (fun K hK => ?_) AllReadyH.nil
  go_simp
  (go_at_call 9; ((with_reducible refine (HLV.out _ (bel_trans B7.out HHeld.out)).mono ?_); rintro e w8 ⟨rfl, b8⟩; have B8 := Lib.hid (HHeld.out.trans (b8.mono HHeld.out.size)); clear b8))
  refine hK.out _ _ ?_ (fun hHeld => ?_)
  · exact B8.out
  clear HHeld; have HHeld := Lib.hid hHeld; clear hHeld
  clear hK K
  try simp only [pu, pn, s1, s2, s3]
  refine wT (i := 1) (oi := { dst := some 47, op := Op.move (Operand.tmp 46), type := 4, pos := "law.go:51", after := #[{ on := 0, ground := Ground.data }, { on := 0, ground := Ground.chain }], guard := none }) (v := ?_) rfl (Or.inl ⟨by rfl, ?_⟩) HHeld.out ?_
  rotate_left
  · intro w hSw; clear hSw; go_simp; try with_reducible rfl
  try simp only [pu, pn, s1, s2, s3]
  refine wT (i := 2) (oi := { dst := some 48, op := Op.move (Operand.tmp 5), type := 9, pos := "law.go:51", after := #[{ on := 1, ground := Ground.guard }], guard := some (1, true) }) (v := ?_) rfl (Or.inl ⟨by rfl, ?_⟩) HHeld.out ?_
  rotate_left
  · intro w hSw; clear hSw; go_simp; try with_reducible rfl
  try simp only [pu, pn, s1, s2, s3]
  refine wT (i := 3) (oi := { dst := some 49, op := Op.move (Operand.tmp 7), type := 9, pos := "law.go:51", after := #[{ on := 1, ground := Ground.guard }], guard := some (1, true) }) (v := ?_) rfl (Or.inl ⟨by rfl, ?_⟩) HHeld.out ?_
  rotate_left
  · intro w hSw; clear hSw; go_simp; try with_reducible rfl
  try simp only [pu, pn, s1, s2, s3]
  refine wT (i := 4) (oi := { dst := some 50, op := Op.binOp BinOp.eql 9 (Operand.tmp 48) (Operand.tmp 49) 9, type := 4, pos := "law.go:51", after := #[{ on := 2, ground := Ground.data }, { on := 3, ground := Ground.data }, { on := 1, ground := Ground.guard }], guard := some (1, true) }) (v := ?_) rfl (Or.inl ⟨by rfl, ?_⟩) HHeld.out ?_
  rotate_left
  · intro w hSw; clear hSw; go_simp; try with_reducible rfl
  try simp only [pu, pn, s1, s2, s3]
  refine wT (i := 5) (oi := { dst := some 51, op := Op.pick (Operand.tmp 47) (Operand.tmp 50) (Operand.const (Value.bool false)), type := 4, pos := "law.go:51", after := #[{ on := 1, ground := Ground.data }, { on := 4, ground := Ground.data }], guard := none }) (v := ?_) rfl (Or.inl ⟨by rfl, ?_⟩) HHeld.out ?_
  rotate_left
  · intro w hSw; clear hSw; go_simp; try with_reducible rfl
  try simp only [pu, pn, s1, s2, s3]
  refine wT (i := 6) (oi := { dst := some 52, op := Op.move (Operand.tmp 51), type := 4, pos := "law.go:51", after := #[{ on := 5, ground := Ground.data }, { on := 1, ground := Ground.chain }], guard := none }) (v := ?_) rfl (Or.inl ⟨by rfl, ?_⟩) HHeld.out ?_
  rotate_left
  · intro w hSw; clear hSw; go_simp; try with_reducible rfl
  try simp only [pu, pn, s1, s2, s3]
  refine wT (i := 7) (oi := { dst := some 53, op := Op.move (Operand.tmp 6), type := 30, pos := "law.go:51", after := #[{ on := 6, ground := Ground.guard }], guard := some (6, true) }) (v := ?_) rfl (Or.inl ⟨by rfl, ?_⟩) HHeld.out ?_
  rotate_left
  · intro w hSw; clear hSw; go_simp; try with_reducible rfl
  try simp only [pu, pn, s1, s2, s3]
  refine wT (i := 8) (oi := { dst := some 54, op := Op.move (Operand.tmp 8), type := 30, pos := "law.go:51", after := #[{ on := 6, ground := Ground.guard }], guard := some (6, true) }) (v := ?_) rfl (Or.inl ⟨by rfl, ?_⟩) HHeld.out ?_
  rotate_left
  · intro w hSw; clear hSw; go_simp; try with_reducible rfl
  try simp only [pu, pn, s1, s2, s3]
  refine wT (i := 9) (oi := { dst := some 55, op := Op.binOp BinOp.eql 30 (Operand.tmp 53) (Operand.tmp 54) 30, type := 4, pos := "law.go:51", after := #[{ on := 7, ground := Ground.data }, { on := 8, ground := Ground.data }, { on := 6, ground := Ground.guard }], guard := some (6, true) }) (v := ?_) rfl (Or.inl ⟨by rfl, ?_⟩) HHeld.out ?_
  rotate_left
  · intro w hSw; clear hSw; go_simp; try with_reducible rfl
  try simp only [pu, pn, s1, s2, s3]
  refine wT (i := 10) (oi := { dst := some 56, op := Op.pick (Operand.tmp 52) (Operand.tmp 55) (Operand.const (Value.bool false)), type := 4, pos := "law.go:51", after := #[{ on := 6, ground := Ground.data }, { on := 9, ground := Ground.data }], guard := none }) (v := ?_) rfl (Or.inl ⟨by rfl, ?_⟩) HHeld.out ?_
  rotate_left
  · intro w hSw; clear hSw; go_simp; try with_reducible rfl
  try simp only [pu, pn, s1, s2, s3]
  refine wT (i := 11) (oi := { dst := some 57, op := Op.move (Operand.tmp 56), type := 4, pos := "law.go:51", after := #[{ on := 10, ground := Ground.data }, { on := 6, ground := Ground.chain }], guard := none }) (v := ?_) rfl (Or.inl ⟨by rfl, ?_⟩) HHeld.out ?_
  rotate_left
  · intro w hSw; clear hSw; go_simp; try with_reducible rfl
  try simp only [pu, pn, s1, s2, s3]
  refine wT (i := 12) (oi := { dst := some 58, op := Op.move (Operand.tmp 9), type := 3, pos := "law.go:51", after := #[{ on := 11, ground := Ground.guard }], guard := some (11, true) }) (v := ?_) rfl (Or.inl ⟨by rfl, ?_⟩) HHeld.out ?_
  rotate_left
  · intro w hSw; clear hSw; go_simp; try with_reducible rfl
  try simp only [pu, pn, s1, s2, s3]
  refine wT (i := 13) (oi := { dst := some 59, op := Op.move (Operand.tmp 12), type := 3, pos := "law.go:51", after := #[{ on := 11, ground := Ground.guard }], guard := some (11, true) }) (v := ?_) rfl (Or.inl ⟨by rfl, ?_⟩) HHeld.out ?_
  rotate_left
  · intro w hSw; clear hSw; go_simp; try with_reducible rfl
  try simp only [pu, pn, s1, s2, s3]
  refine wT (i := 14) (oi := { dst := some 60, op := Op.binOp BinOp.eql 3 (Operand.tmp 58) (Operand.tmp 59) 3, type := 4, pos := "law.go:51", after := #[{ on := 12, ground := Ground.data }, { on := 13, ground := Ground.data }, { on := 11, ground := Ground.guard }], guard := some (11, true) }) (v := ?_) rfl (Or.inl ⟨by rfl, ?_⟩) HHeld.out ?_
  rotate_left
  · intro w hSw; clear hSw; go_simp; try with_reducible rfl
  try simp only [pu, pn, s1, s2, s3]
  refine wT (i := 15) (oi := { dst := some 61, op := Op.pick (Operand.tmp 57) (Operand.tmp 60) (Operand.const (Value.bool false)), type := 4, pos := "law.go:51", after := #[{ on := 11, ground := Ground.data }, { on := 14, ground := Ground.data }], guard := none }) (v := ?_) rfl (Or.inl ⟨by rfl, ?_⟩) HHeld.out ?_
  rotate_left
  · intro w hSw; clear hSw; go_simp; try with_reducible rfl
  try simp only [pu, pn, s1, s2, s3]
  refine wT (i := 16) (oi := { dst := some 62, op := Op.move (Operand.tmp 61), type := 4, pos := "law.go:51", after := #[{ on := 15, ground := Ground.data }, { on := 11, ground := Ground.chain }], guard := none }) (v := ?_) rfl (Or.inl ⟨by rfl, ?_⟩) HHeld.out ?_
  rotate_left
  · intro w hSw; clear hSw; go_simp; try with_reducible rfl
  try simp only [pu, pn, s1, s2, s3]
  refine wT (i := 17) (oi := { dst := some 63, op := Op.move (Operand.tmp 10), type := 3, pos := "law.go:51", after := #[{ on := 16, ground := Ground.guard }], guard := some (16, true) }) (v := ?_) rfl (Or.inl ⟨by rfl, ?_⟩) HHeld.out ?_
  rotate_left
  · intro w hSw; clear hSw; go_simp; try with_reducible rfl
  try simp only [pu, pn, s1, s2, s3]
  refine wT (i := 18) (oi := { dst := some 64, op := Op.move (Operand.tmp 13), type := 3, pos := "law.go:51", after := #[{ on := 16, ground := Ground.guard }], guard := some (16, true) }) (v := ?_) rfl (Or.inl ⟨by rfl, ?_⟩) HHeld.out ?_
  rotate_left
  · intro w hSw; clear hSw; go_simp; try with_reducible rfl
  try simp only [pu, pn, s1, s2, s3]
  refine wT (i := 19) (oi := { dst := some 65, op := Op.binOp BinOp.eql 3 (Operand.tmp 63) (Operand.tmp 64) 3, type := 4, pos := "law.go:51", after := #[{ on := 17, ground := Ground.data }, { on := 18, ground := Ground.data }, { on := 16, ground := Ground.guard }], guard := some (16, true) }) (v := ?_) rfl (Or.inl ⟨by rfl, ?_⟩) HHeld.out ?_
  rotate_left
  · intro w hSw; clear hSw; go_simp; try with_reducible rfl
  try simp only [pu, pn, s1, s2, s3]
  refine wT (i := 20) (oi := { dst := some 66, op := Op.pick (Operand.tmp 62) (Operand.tmp 65) (Operand.const (Value.bool false)), type := 4, pos := "law.go:51", after := #[{ on := 16, ground := Ground.data }, { on := 19, ground := Ground.data }], guard := none }) (v := ?_) rfl (Or.inl ⟨by rfl, ?_⟩) HHeld.out ?_
  rotate_left
  · intro w hSw; clear hSw; go_simp; try with_reducible rfl
  try simp only [pu, pn, s1, s2, s3]
  refine wT (i := 21) (oi := { dst := some 67, op := Op.move (Operand.tmp 66), type := 4, pos := "law.go:51", after := #[{ on := 20, ground := Ground.data }, { on := 16, ground := Ground.chain }], guard := none }) (v := ?_) rfl (Or.inl ⟨by rfl, ?_⟩) HHeld.out ?_
  rotate_left
  · intro w hSw; clear hSw; go_simp; try with_reducible rfl
  try simp only [pu, pn, s1, s2, s3]
  refine wT (i := 22) (oi := { dst := some 68, op := Op.move (Operand.tmp 11), type := 30, pos := "law.go:51", after := #[{ on := 21, ground := Ground.guard }], guard := some (21, true) }) (v := ?_) rfl (Or.inl ⟨by rfl, ?_⟩) HHeld.out ?_
  rotate_left
  · intro w hSw; clear hSw; go_simp; try with_reducible rfl
  try simp only [pu, pn, s1, s2, s3]
  refine wT (i := 23) (oi := { dst := some 69, op := Op.move (Operand.tmp 14), type := 30, pos := "law.go:51", after := #[{ on := 21, ground := Ground.guard }], guard := some (21, true) }) (v := ?_) rfl (Or.inl ⟨by rfl, ?_⟩) HHeld.out ?_
  rotate_left
  · intro w hSw; clear hSw; go_simp; try with_reducible rfl
  try simp only [pu, pn, s1, s2, s3]
  refine wT (i := 24) (oi := { dst := some 70, op := Op.binOp BinOp.eql 30 (Operand.tmp 68) (Operand.tmp 69) 30, type := 4, pos := "law.go:51", after := #[{ on := 22, ground := Ground.data }, { on := 23, ground := Ground.data }, { on := 21, ground := Ground.guard }], guard := some (21, true) }) (v := ?_) rfl (Or.inl ⟨by rfl, ?_⟩) HHeld.out ?_
  rotate_left
  · intro w hSw; clear hSw; go_simp; try with_reducible rfl
  try simp only [pu, pn, s1, s2, s3]
  refine wT (i := 25) (oi := { dst := some 71, op := Op.pick (Operand.tmp 67) (Operand.tmp 70) (Operand.const (Value.bool false)), type := 4, pos := "law.go:51", after := #[{ on := 21, ground := Ground.data }, { on := 24, ground := Ground.data }], guard := none }) (v := ?_) rfl (Or.inl ⟨by rfl, ?_⟩) HHeld.out ?_
  rotate_left
  · intro w hSw; clear hSw; go_simp; try with_reducible rfl
  try simp only [pu, pn, s1, s2, s3]
  refine wT (i := 26) (oi := { dst := some 72, op := Op.move (Operand.tmp 71), type := 4, pos := "law.go:51", after := #[{ on := 25, ground := Ground.data }, { on := 21, ground := Ground.chain }], guard := none }) (v := ?_) rfl (Or.inl ⟨by rfl, ?_⟩) HHeld.out ?_
  rotate_left
  · intro w hSw; clear hSw; go_simp; try with_reducible rfl
  try simp only [pu, pn, s1, s2, s3]
  refine wT (i := 27) (oi := { dst := some 73, op := Op.load 27 (Operand.tmp 2), type := 27, pos := "law.go:51", after := #[{ on := 26, ground := Ground.guard }], guard := some (26, true) }) (v := (.agg #[.int .i64 a0, .int .i64 a1, .int .i64 a2, .int .i64 a3, .int .i64 a4, .int .i64 a5, .int .i64 a6, .int .i64 a7, .int .i64 a8, .slice A n c, .slice B m d] : Value)) rfl (Or.inl ⟨by rfl, ?_⟩) HHeld.out ?_
  · intro V hV; have hc0 := bel_later hV HA0.out; have hc1 := bel_later hV HA1.out; have hc2 := bel_later hV HA2.out; have hc3 := bel_later hV HA3.out; have hc4 := bel_later hV HA4.out; have hc5 := bel_later hV HA5.out; have hc6 := bel_later hV HA6.out; have hc7 := bel_later hV HA7.out; have hc8 := bel_later hV HA8.out; have hc9 := bel_later hV HA9.out; have hc10 := bel_later hV HA10.out; clear hV; go_simp
  try simp only [pu, pn, s1, s2, s3]
  refine wT (i := 28) (oi := { dst := some 74, op := Op.load 27 (Operand.tmp 3), type := 27, pos := "law.go:51", after := #[{ on := 26, ground := Ground.guard }], guard := some (26, true) }) (v := (.agg #[.int .i64 b0, .int .i64 b1, .int .i64 b2, .int .i64 b3, .int .i64 b4, .int .i64 b5, .int .i64 b6, .int .i64 b7, .int .i64 b8, .slice A' n' c', .slice B' m' d'] : Value)) rfl (Or.inl ⟨by rfl, ?_⟩) HHeld.out ?_
  · intro V hV; have hc0 := bel_later hV HB0.out; have hc1 := bel_later hV HB1.out; have hc2 := bel_later hV HB2.out; have hc3 := bel_later hV HB3.out; have hc4 := bel_later hV HB4.out; have hc5 := bel_later hV HB5.out; have hc6 := bel_later hV HB6.out; have hc7 := bel_later hV HB7.out; have hc8 := bel_later hV HB8.out; have hc9 := bel_later hV HB9.out; have hc10 := bel_later hV HB10.out; clear hV; go_simp
  try simp only [pu, pn, s1, s2, s3]
  refine wT (i := 30) (oi := { dst := some 76, op := Op.load 27 (Operand.tmp 2), type := 27, pos := "law.go:51", after := #[{ on := 26, ground := Ground.guard }], guard := some (26, true) }) (v := (.agg #[.int .i64 a0, .int .i64 a1, .int .i64 a2, .int .i64 a3, .int .i64 a4, .int .i64 a5, .int .i64 a6, .int .i64 a7, .int .i64 a8, .slice A n c, .slice B m d] : Value)) rfl (Or.inl ⟨by rfl, ?_⟩) HHeld.out ?_
  · intro V hV; have hc0 := bel_later hV HA0.out; have hc1 := bel_later hV HA1.out; have hc2 := bel_later hV HA2.out; have hc3 := bel_later hV HA3.out; have hc4 := bel_later hV HA4.out; have hc5 := bel_later hV HA5.out; have hc6 := bel_later hV HA6.out; have hc7 := bel_later hV HA7.out; have hc8 := bel_later hV HA8.out; have hc9 := bel_later hV HA9.out; have hc10 := bel_later hV HA10.out; clear hV; go_simp
  try simp only [pu, pn, s1, s2, s3]
  refine wT (i := 31) (oi := { dst := some 77, op := Op.load 27 (Operand.tmp 3), type := 27, pos := "law.go:51", after := #[{ on := 26, ground := Ground.guard }], guard := some (26, true) }) (v := (.agg #[.int .i64 b0, .int .i64 b1, .int .i64 b2, .int .i64 b3, .int .i64 b4, .int .i64 b5, .int .i64 b6, .int .i64 b7, .int .i64 b8, .slice A' n' c', .slice B' m' d'] : Value)) rfl (Or.inl ⟨by rfl, ?_⟩) HHeld.out ?_
  · intro V hV; have hc0 := bel_later hV HB0.out; have hc1 := bel_later hV HB1.out; have hc2 := bel_later hV HB2.out; have hc3 := bel_later hV HB3.out; have hc4 := bel_later hV HB4.out; have hc5 := bel_later hV HB5.out; have hc6 := bel_later hV HB6.out; have hc7 := bel_later hV HB7.out; have hc8 := bel_later hV HB8.out; have hc9 := bel_later hV HB9.out; have hc10 := bel_later hV HB10.out; clear hV; go_simp
  try simp only [pu, pn, s1, s2, s3]
  refine wpAnyH_ready (rs := [29]) (by kernel_rfl) (by simp) ?_
  refine AllReadyH.cons (o := { dst := some 75, op := Op.call { callee := Callee.value (Operand.func 14), args := #[Operand.tmp 73, Operand.tmp 74], argTypes := #[27, 27] }, type := 4, pos := "law.go:51", after := #[{ on := 27, ground := Ground.data }, { on := 28, ground := Ground.data }, { on := 26, ground := Ground.chain }, { on := 26, ground := Ground.guard }], guard := some (26, true) }) rfl (fun K hK => ?_) AllReadyH.nil
  go_simp
  (go_at_call 14; ((with_reducible refine (H14.out _ (bel_trans B7.out HHeld.out)).mono ?_); rintro e w9 ⟨rfl, b9⟩; have B9 := Lib.hid (HHeld.out.trans (b9.mono HHeld.out.size)); clear b9))
  refine hK.out _ _ ?_ (fun hHeld => ?_)
  · exact B9.out
  clear HHeld; have HHeld := Lib.hid hHeld; clear hHeld
  clear hK K
  try simp only [pu, pn, s1, s2, s3]
  refine wpAnyH_ready (rs := [32]) (by kernel_rfl) (by simp) ?_
  refine AllReadyH.cons (o := { dst := some 78, op := Op.call { callee := Callee.value (Operand.func 15), args := #[Operand.tmp 76, Operand.tmp 77], argTypes := #[27, 27] }, type := 4, pos := "law.go:51", after := #[{ on := 30, ground := Ground.data }, { on := 31, ground := Ground.data }, { on := 29, ground := Ground.chain }, { on := 26, ground := Ground.guard }], guard := some (26, true) }) rfl (fun K hK => ?_) AllReadyH.nil
  go_simp
  (go_at_call 15; ((with_reducible refine (H15.out _ (bel_trans B7.out HHeld.out)).mono ?_); rintro e w10 ⟨rfl, b10⟩; have B10 := Lib.hid (HHeld.out.trans (b10.mono HHeld.out.size)); clear b10))
  refine hK.out _ _ ?_ (fun hHeld => ?_)
  · exact B10.out
  clear HHeld; have HHeld := Lib.hid hHeld; clear hHeld
  clear hK K
  try simp only [pu, pn, s1, s2, s3]
  refine wT (i := 33) (oi := { dst := some 79, op := Op.binOp BinOp.eql 4 (Operand.tmp 75) (Operand.tmp 78) 4, type := 4, pos := "law.go:51", after := #[{ on := 29, ground := Ground.data }, { on := 32, ground := Ground.data }, { on := 26, ground := Ground.guard }], guard := some (26, true) }) (v := ?_) rfl (Or.inl ⟨by rfl, ?_⟩) HHeld.out ?_
  rotate_left
  · intro w hSw; clear hSw; go_simp; try with_reducible rfl
  try simp only [pu, pn, s1, s2, s3]
  refine wT (i := 34) (oi := { dst := some 80, op := Op.pick (Operand.tmp 72) (Operand.tmp 79) (Operand.const (Value.bool false)), type := 4, pos := "law.go:51", after := #[{ on := 26, ground := Ground.data }, { on := 33, ground := Ground.data }], guard := none }) (v := ?_) rfl (Or.inl ⟨by rfl, ?_⟩) HHeld.out ?_
  rotate_left
  · intro w hSw; clear hSw; go_simp; try with_reducible rfl
  try simp only [pu, pn, s1, s2, s3]
  refine wT (i := 35) (oi := { dst := some 81, op := Op.move (Operand.tmp 80), type := 4, pos := "law.go:51", after := #[{ on := 34, ground := Ground.data }, { on := 32, ground := Ground.chain }], guard := none }) (v := ?_) rfl (Or.inl ⟨by rfl, ?_⟩) HHeld.out ?_
  rotate_left
  · intro w hSw; clear hSw; go_simp; try with_reducible rfl
  try simp only [pu, pn, s1, s2, s3]
  refine wT (i := 36) (oi := { dst := some 82, op := Op.load 27 (Operand.tmp 2), type := 27, pos := "law.go:51", after := #[{ on := 35, ground := Ground.guard }], guard := some (35, true) }) (v := (.agg #[.int .i64 a0, .int .i64 a1, .int .i64 a2, .int .i64 a3, .int .i64 a4, .int .i64 a5, .int .i64 a6, .int .i64 a7, .int .i64 a8, .slice A n c, .slice B m d] : Value)) rfl (Or.inl ⟨by rfl, ?_⟩) HHeld.out ?_
  · intro V hV; have hc0 := bel_later hV HA0.out; have hc1 := bel_later hV HA1.out; have hc2 := bel_later hV HA2.out; have hc3 := bel_later hV HA3.out; have hc4 := bel_later hV HA4.out; have hc5 := bel_later hV HA5.out; have hc6 := bel_later hV HA6.out; have hc7 := bel_later hV HA7.out; have hc8 := bel_later hV HA8.out; have hc9 := bel_later hV HA9.out; have hc10 := bel_later hV HA10.out; clear hV; go_simp
  try simp only [pu, pn, s1, s2, s3]
  refine wT (i := 37) (oi := { dst := some 83, op := Op.load 27 (Operand.tmp 2), type := 27, pos := "law.go:51", after := #[{ on := 35, ground := Ground.guard }], guard := some (35, true) }) (v := (.agg #[.int .i64 a0, .int .i64 a1, .int .i64 a2, .int .i64 a3, .int .i64 a4, .int .i64 a5, .int .i64 a6, .int .i64 a7, .int .i64 a8, .slice A n c, .slice B m d] : Value)) rfl (Or.inl ⟨by rfl, ?_⟩) HHeld.out ?_
  · intro V hV; have hc0 := bel_later hV HA0.out; have hc1 := bel_later hV HA1.out; have hc2 := bel_later hV HA2.out; have hc3 := bel_later hV HA3.out; have hc4 := bel_later hV HA4.out; have hc5 := bel_later hV HA5.out; have hc6 := bel_later hV HA6.out; have hc7 := bel_later hV HA7.out; have hc8 := bel_later hV HA8.out; have hc9 := bel_later hV HA9.out; have hc10 := bel_later hV HA10.out; clear hV; go_simp
  try simp only [pu, pn, s1, s2, s3]
  refine wpAnyH_ready (rs := [38]) (by kernel_rfl) (by simp) ?_
  refine AllReadyH.cons (o := { dst := some 84, op := Op.call { callee := Callee.value (Operand.func 14), args := #[Operand.tmp 82, Operand.tmp 83], argTypes := #[27, 27] }, type := 4, pos := "law.go:51", after := #[{ on := 36, ground := Ground.data }, { on := 37, ground := Ground.data }, { on := 35, ground := Ground.chain }, { on := 35, ground := Ground.guard }], guard := some (35, true) }) rfl (fun K hK => ?_) AllReadyH.nil
  go_simp
  (go_at_call 14; ((with_reducible refine (H16.out _ (bel_trans B7.out HHeld.out)).mono ?_); rintro e w11 ⟨rfl, b11⟩; have B11 := Lib.hid (HHeld.out.trans (b11.mono HHeld.out.size)); clear b11))
  refine hK.out _ _ ?_ (fun hHeld => ?_)
  · exact B11.out
  clear HHeld; have HHeld := Lib.hid hHeld; clear hHeld
  clear hK K
  try simp only [pu, pn, s1, s2, s3]
  refine wT (i := 39) (oi := { dst := some 85, op := Op.pick (Operand.tmp 81) (Operand.tmp 84) (Operand.const (Value.bool false)), type := 4, pos := "law.go:51", after := #[{ on := 35, ground := Ground.data }, { on := 38, ground := Ground.data }], guard := none }) (v := ?_) rfl (Or.inl ⟨by rfl, ?_⟩) HHeld.out ?_
  rotate_left
  · intro w hSw; clear hSw; go_simp; try with_reducible rfl
  try simp only [pu, pn, s1, s2, s3]
  refine wT (i := 40) (oi := { dst := some 4, op := Op.assign (Operand.tmp 85), type := 4, pos := "law.go:51", after := #[{ on := 39, ground := Ground.data }, { on := 38, ground := Ground.chain }, { on := 0, ground := Ground.phase }, { on := 1, ground := Ground.phase }, { on := 2, ground := Ground.phase }, { on := 3, ground := Ground.phase }, { on := 4, ground := Ground.phase }, { on := 5, ground := Ground.phase }, { on := 6, ground := Ground.phase }, { on := 7, ground := Ground.phase }, { on := 8, ground := Ground.phase }, { on := 9, ground := Ground.phase }, { on := 10, ground := Ground.phase }, { on := 11, ground := Ground.phase }, { on := 12, ground := Ground.phase }, { on := 13, ground := Ground.phase }, { on := 14, ground := Ground.phase }, { on := 15, ground := Ground.phase }, { on := 16, ground := Ground.phase }, { on := 17, ground := Ground.phase }, { on := 18, ground := Ground.phase }, { on := 19, ground := Ground.phase }, { on := 20, ground := Ground.phase }, { on := 21, ground := Ground.phase }, { on := 22, ground := Ground.phase }, { on := 23, ground := Ground.phase }, { on := 24, ground := Ground.phase }, { on := 25, ground := Ground.phase }, { on := 26, ground := Ground.phase }, { on := 27, ground := Ground.phase }, { on := 28, ground := Ground.phase }, { on := 29, ground := Ground.phase }, { on := 30, ground := Ground.phase }, { on := 31, ground := Ground.phase }, { on := 32, ground := Ground.phase }, { on := 33, ground := Ground.phase }, { on := 34, ground := Ground.phase }, { on := 35, ground := Ground.phase }, { on := 36, ground := Ground.phase }, { on := 37, ground := Ground.phase }, { on := 38, ground := Ground.phase }, { on := 39, ground := Ground.phase }], guard := none }) (v := ?_) rfl (Or.inl ⟨by rfl, ?_⟩) HHeld.out ?_
  rotate_left
  · intro w hSw; clear hSw; go_simp; try with_reducible rfl
  try simp only [pu, pn, s1, s2, s3]
  refine wpAnyH_done (by kernel_rfl) ?_ _
  have BE := Lib.hid (bel_trans B7.out HHeld.out)
  clear HHeld
  go_wp2
  exact bodyPost_ret (v := .bool true) (by simp [results, Tryz.results3, go_sem]) rfl ⟨rfl, BE.out⟩
theorem prints_any {x y : ScV} {v u : Value} (w : World) (hg : GW w) (hR : ScR w x v) (hS : ScR w y u) (hi : ScIn x) (hj : ScIn y) : Calls Tryz.prog 3 #[v, u] w fun e w' => e = .returned (.bool true) ∧ Below w.heap.size w w' := by
  have hR0 := hR
  have hS0 := hS
  obtain ⟨a0, a1, a2, a3, a4, a5, a6, a7, a8, A, c, B, d, hs, hcf, rfl, _⟩ := hR0.h
  obtain ⟨b0, b1, b2, b3, b4, b5, b6, b7, b8, A', c', B', d', hs', hcf', rfl, _⟩ := hS0.h
  exact prints_walk x y a0 a1 a2 a3 a4 a5 a6 a7 a8 b0 b1 b2 b3 b4 b5 b6 b7 b8 A B A' B' _ c _ d _ c' _ d' w hg hR hS hi hj
end Go.Proofs.YtelpkajlejbbgaaGreatDoor
namespace Go.Proofs.YtelpkajlejbbgaaGreatDoor
open Go.ChangeShapes Go.WideShapes Go.ChangeAt Go.RowKit
/-- The wrap of a row that lists variables, the world's shape kept. -/
theorem handed_and_shaped {H : Type} {enc : TypeId × Value → H} {a : Assume} {C : Checked} {os : Os} {f : FuncId} {fn : Func} {s : ChangeSpec} {conds : List PathCond} {apart fresh handsOn again : Bool} {X : World → Array Value → Prop}
    (hX : ∀ (w w' : World) (args : Array Value), w.heap = w'.heap → X w args → X w' args)
    (own : ownKnob C.prog.godebug = none) (started : os.Started) (noInit : C.prog.inits.idxOf? f = none) (hfn : C.prog.funcs[f]? = some fn)
    (witness : ∃ (w : World) (tape : Tape) (i : Input), w.os = os ∧ (w.forCall tape i).Shaped C.prog ∧ i.vars = [] ∧ Input.okWide C.prog (w.forCall tape i) .any w.heap.size f i ∧
      ((s.pre enc C.prog fn conds apart (w.forCall tape i).memory i.args ∧ X (w.forCall tape i).memory i.args) ∧ sizedMet enc C.prog fn (OpenSpec.ofChange s) apart (w.forCall tape i).memory i.args) ∧ a.holds C.prog (lone (Frame.enter C.prog f i.args .normal) [] (w.forCall tape i)))
    (contract : ∀ (W : World) (base : Nat) (args : Array Value) (ds gs : List (DataW H)) (before : List MemPlace),
      (∀ (j : Nat) t v, fn.params[j]? = some t → args[j]? = some v → Value.okWide C.prog W .any base t v) →
      DataW.Whole enc C.prog fn.params.toList s.vars apart W args.toList ds gs before →
      (DataW.weightsEach C.prog (fn.params.toList ++ s.plain.varTypes C.prog) (ds ++ gs)).all (· ≤ reachBytes) = true → X W args → W.ShapedOpen C.prog →
      Calls C.prog f args W fun e W' => ∃ v, e = .returned v ∧ s.post enc C.prog fn apart fresh handsOn again W args v W') :
    ReturnsInHanded a C os f .any (fun w args => (s.pre enc C.prog fn conds apart w args ∧ X w args) ∧ sizedMet enc C.prog fn (OpenSpec.ofChange s) apart w args) (s.post enc C.prog fn apart fresh handsOn again) := by
  refine returnsInHanded_of_calls own started noInit witness ?_
  intro w tape i _ hsh _ hok hpre hholds
  obtain ⟨_, _, _, fn', hfn', _, _, _, _, hval⟩ := hok
  have e : fn' = fn := Option.some.inj (hfn'.symm.trans hfn)
  subst e
  obtain ⟨⟨⟨ds, gs, before, hw, hc⟩, hx⟩, hz⟩ := hpre
  have hw' := DataW.Whole.of_heap (w' := w.forCall tape i) (by rfl) hw
  refine (contract (w.forCall tape i) w.heap.size i.args ds gs before hval hw' (hz.weights hw) (hX _ _ _ (by rfl) hx) hsh).mono fun e W' ⟨v, he, hp⟩ => ?_
  subst he
  exact ChangeSpec.post_blind hp
theorem card_own : ownKnob Tryz.prog.godebug = none := by kernel_rfl
theorem card_laidOut : laidOutB Tryz.prog = true := by kernel_rfl
/-- What the rows list. -/
abbrev LL : List (String × DataW Unit) := Rows.scriptForthRow.laid
theorem iface_cell {P : Program} {H : Type} {enc : TypeId × Value → H} {w : World} {base : Nat} {sp : Nat → Bool} {held : Bool} {fuel : Nat} {t : TypeId} {ms : Array (String × TypeId)} {cs : List Value} {x : DataW H × List MemPlace} (ht : P.underlying t = some (.interface ms))
    (h : DataW.trod enc P w base sp held fuel t cs = some x) : ∃ ev, cs = [ev] ∧ (ev = .nilIface ∨ ∃ te pe, ev = .iface te pe) := by
  cases fuel with
  | zero => simp [DataW.trod] at h
  | succ m =>
    match cs, h with
    | [], h => simp [DataW.trod, ht] at h
    | [v], h =>
      cases v <;> first
        | exact ⟨_, rfl, .inl rfl⟩
        | exact ⟨_, rfl, .inr ⟨_, _, rfl⟩⟩
        | (simp [DataW.trod, ht] at h; done)
    | a :: b :: r, h => simp [DataW.trod, ht] at h
theorem od_c3 : Tryz.prog.cellsOf 3 = 1 := by kernel_rfl
set_option maxRecDepth 100000 in
theorem met_gw {W : World} (hL : laidMetH Tryz.prog LL W) (hs : W.ShapedOpen Tryz.prog) : GW W := by
  rw [MakeChecks.laidMetH_plain _ _ _ (by kernel_rfl)] at hL
  have sent : ∀ (n : String) (g : Nat) (d : DataW Unit), (n, d) ∈ LL → Tryz.prog.globalNamed n = some g → (Tryz.prog.globals[g]?).map (·.type) = some 90 → ∃ ev, W.cell? ⟨g, 0, none⟩ = some ev ∧ (ev = .nilIface ∨ ∃ te pe, ev = .iface te pe) := by
    intro n g d hm hg ht
    obtain ⟨g', t', cs, fuel, p, h1, h2, h3, h4⟩ := Lib.laidMet.reads hL hm
    obtain rfl := Option.some.inj (hg.symm.trans h1)
    obtain rfl := Option.some.inj (ht.symm.trans h2)
    obtain ⟨ev, e, hev⟩ := iface_cell Tryz.underlying90 h4
    refine ⟨ev, ?_, hev⟩
    have := World.var?_cell hg h3 0
    rw [Array.eq_one_of_toList e] at this
    simpa using this
  have tab : Lib.TabIs Tryz.prog W "internal/strconv.uint64pow10" .u64 Lib.pow10Tab := by
    have hm : ("internal/strconv.uint64pow10", Rows.laid_internal_strconv_uint64pow10) ∈ LL := .tail _ (.tail _ (.head _))
    obtain ⟨g', t', cs, fuel, p, h1, h2, h3, h4⟩ := Lib.laidMet.reads hL hm
    obtain rfl := Option.some.inj ((show Tryz.prog.globalNamed "internal/strconv.uint64pow10" = some 2 by kernel_rfl).symm.trans h1)
    obtain rfl := Option.some.inj ((show (Tryz.prog.globals[2]?).map (·.type) = some 145 by kernel_rfl).symm.trans h2)
    have e : (Rows.laid_internal_strconv_uint64pow10 : DataW Unit) = Lib.tabData .u64 Lib.pow10Tab := by kernel_rfl
    rw [e] at h4
    have q := Lib.cells_of_tab Tryz.underlying145 Tryz.underlying49 (by kernel_rfl) (by kernel_rfl) h4
    unfold Lib.TabIs
    rw [h3, ← q]
  have an : ∀ i v, ([2147483647, 2147483647, 0, 0, 0, 0, 0, 0, 2147483647] : List Int)[i]? = some v → W.cell? ⟨0, i, none⟩ = some (.int .i64 v) := by
    have hm : ("catchment/script.anySizes", Rows.laid_catchment_script_anySizes) ∈ LL := .tail _ (.tail _ (.tail _ (.tail _ (.tail _ (.tail _ (.head _))))))
    obtain ⟨g', t', cs, fuel, p, h1, h2, h3, h4⟩ := Lib.laidMet.reads hL hm
    obtain rfl := Option.some.inj ((show Tryz.prog.globalNamed "catchment/script.anySizes" = some 0 by kernel_rfl).symm.trans h1)
    obtain rfl := Option.some.inj ((show (Tryz.prog.globals[0]?).map (·.type) = some 23 by kernel_rfl).symm.trans h2)
    obtain ⟨cl⟩ := cs
    obtain ⟨xs, m, _, hxe, hcl, hxl, hel⟩ := DataW.trod_struct Tryz.underlying23 h4
    have hcl2 : cl.length = 9 := hcl.trans (by kernel_rfl)
    match cl, hcl2, xs, hxl with
    | [c0, c1, c2, c3, c4, c5, c6, c7, c8], _, [y0, y1, y2, y3, y4, y5, y6, y7, y8], _ =>
      have h0' := hel 0 _ rfl
      have h1' := hel 1 _ rfl
      have h2' := hel 2 _ rfl
      have h3' := hel 3 _ rfl
      have h4' := hel 4 _ rfl
      have h5' := hel 5 _ rfl
      have h6' := hel 6 _ rfl
      have h7' := hel 7 _ rfl
      have h8' := hel 8 _ rfl
      simp [od_c3] at h0' h1' h2' h3' h4' h5' h6' h7' h8'
      obtain ⟨p0, e0, d0, _⟩ := DataW.trod_int Tryz.underlying3 h0'
      obtain ⟨p1, e1, d1, _⟩ := DataW.trod_int Tryz.underlying3 h1'
      obtain ⟨p2, e2, d2, _⟩ := DataW.trod_int Tryz.underlying3 h2'
      obtain ⟨p3, e3, d3, _⟩ := DataW.trod_int Tryz.underlying3 h3'
      obtain ⟨p4, e4, d4, _⟩ := DataW.trod_int Tryz.underlying3 h4'
      obtain ⟨p5, e5, d5, _⟩ := DataW.trod_int Tryz.underlying3 h5'
      obtain ⟨p6, e6, d6, _⟩ := DataW.trod_int Tryz.underlying3 h6'
      obtain ⟨p7, e7, d7, _⟩ := DataW.trod_int Tryz.underlying3 h7'
      obtain ⟨p8, e8, d8, _⟩ := DataW.trod_int Tryz.underlying3 h8'
      simp at e0 e1 e2 e3 e4 e5 e6 e7 e8
      subst e0 e1 e2 e3 e4 e5 e6 e7 e8
      subst d0 d1 d2 d3 d4 d5 d6 d7 d8
      have hd := congrArg Prod.fst hxe
      simp [Rows.laid_catchment_script_anySizes] at hd
      obtain ⟨rfl, rfl, rfl, rfl, rfl, rfl, rfl, rfl, rfl⟩ := hd
      intro i v hv
      have hc := World.var?_cell (show Tryz.prog.globalNamed "catchment/script.anySizes" = some 0 by kernel_rfl) h3 i
      rw [hc, ← Array.getElem?_toList]
      show (([2147483647, 2147483647, 0, 0, 0, 0, 0, 0, 2147483647] : List Int).map (Value.int .i64))[i]? = _
      rw [List.getElem?_map, hv]
      rfl
  refine ⟨an, cell_of_shapedOpen_int hs (g := 1) (t := 3) (zero := #[.int .i64 0]) (of_decide_eq_true (by kernel_rfl)) (by kernel_rfl) rfl (by kernel_rfl) (by kernel_rfl) Tryz.underlying3, ?_, ?_, tab⟩
  · exact sent "strconv.ErrSyntax" 7 _ (.tail _ (.tail _ (.tail _ (.tail _ (.tail _ (.head _)))))) (by kernel_rfl) (by kernel_rfl)
  · exact sent "strconv.ErrRange" 8 _ (.tail _ (.tail _ (.tail _ (.tail _ (.head _))))) (by kernel_rfl) (by kernel_rfl)
set_option maxRecDepth 100000 in
theorem start_met (os : Os) (args : Array Value) : laidMetH Tryz.prog LL ((World.laidAll Tryz.prog os LL).forCall (fun _ _ => 0) ⟨#[], args, []⟩).memory := by
  rw [MakeChecks.laidMetH_plain _ _ _ (by kernel_rfl)]
  exact laidMet_laidAll _ (by kernel_rfl) (by kernel_rfl)
set_option maxRecDepth 100000 in
theorem start_shaped (os : Os) (args : Array Value) : ((World.laidAll Tryz.prog os LL).forCall (fun _ _ => 0) ⟨#[], args, []⟩).Shaped Tryz.prog := World.shaped_of_ZipB (by kernel_rfl) (by kernel_rfl)
end Go.Proofs.YtelpkajlejbbgaaGreatDoor
