/- The document's arena: Give. -/
import Derived.Test.YtpihoegikojlaaaB3
namespace Go.Proofs.Ytpihoegikojlaaa
set_option linter.unusedSimpArgs false
open Go.RowKit Go.Maps
set_option linter.unusedVariables false
variable {F : Nat → Prop}

theorem row_far {w : World} {base n k : Nat} {e : TypeId} {size : Nat} {v : Value} {xs : List Value} (h : w.ownsRow base e size v n xs) (hk : k < base) : v.ownBlock = none ∨ v.ownBlock ≠ some k := by
  rcases hob : v.ownBlock with _ | ob
  · exact .inl rfl
  · right; have := (h.lt ob hob).1; simp; omega
theorem own_far {w v : World} {base n m c : Nat} {e : TypeId} {size : Nat} {A : Option Addr} {xs : List Value} (h : w.ownsRow base e size (.slice A m c) n xs) (hb : v.heap.size ≤ base) (hF : Hid (∀ g, F g → g < v.heap.size)) : ∀ a, A = some a → ¬ F a.block := by
  intro a ha hf
  subst ha
  have h1 := (h.lt a.block rfl).1
  have h2 := hF.out _ hf
  omega

set_option maxRecDepth 4000 in
set_option maxHeartbeats 1000000 in
theorem dgive_yes (cs : Array Value) (b : AB) (i : Int) (w : World) (hk : RBk F w cs b) (hbl : b.bk.length ≤ 1000) (hF : Hid (∀ g, F g → g < w.heap.size)) (hT : thereD b i = true) :
    Calls Try.prog 27 #[.agg cs, .int .i64 i] w (BPost F w (bkS (vlS (tkS b i.toNat false) i.toNat 0) (b.bk ++ [i])) 0) := by
  have hal := run_zb
  obtain ⟨k, rfl⟩ : ∃ k : Nat, i = k := ⟨i.toNat, by have := (there_in hT).1; omega⟩
  have hk64 : k < 64 := by have := (there_in hT).2.1; omega
  have hk65 : (k : Int) < 64 := by omega
  have hk0 : (0 : Int) ≤ (k : Int) := by omega
  have hkt : thereD b (k : Int) = true := hT
  rw [Int.toNat_natCast]
  clear hkt
  have A := Lib.hid (fun V (hV : RBk F V cs b) => (by have h := there_any cs b k V hV; rw [hT] at h; exact h : Calls Try.prog 30 _ V _))
  have HK := Lib.hid hk
  clear hk hT
  have HH : Hid (((w.alloc (.cells cs 33)).alloc (.cells zb 33)).heap[w.heap.size]? = some (.cells cs 33 (0, 0))) := Lib.hid (by have := heap_alloc2_old w (.cells cs 33) (.cells zb 33); exact this)
  have HZ : Hid (((w.alloc (.cells cs 33)).alloc (.cells zb 33)).heap[w.heap.size + 1]? = some (.cells zb 33 (0, 0))) := Lib.hid (by have := heap_alloc2_new w (.cells cs 33) (.cells zb 33); exact this)
  have HW : Hid (Below w.heap.size w ((w.alloc (.cells cs 33)).alloc (.cells zb 33))) := Lib.hid (by go_grown)
  go_enter Try.func27, Try.ntmps27
  go_wp2_with (first
    | (refine wpList_load_row rfl 33 (.tmp 2) rfl w.heap.size rfl 33 cs (0, 0) _ HH.out Try.underlying33 rfl (by rw [HK.out.size]; exact info33) ?_)
    | fail)
  refine (A.out _ (HK.out.later HW.out)).mono ?_
  rintro e w1 ⟨rfl, hb⟩
  have HN := Lib.hid (blk_bel hb HH.out)
  have hM := Lib.hid (blk_bel hb HZ.out)
  have HB := Lib.hid hb
  clear hb
  have HBE : Hid (Below w.heap.size w w1) := Lib.hid (HW.out.trans (HB.out.mono HW.out.size))
  have e2 : w1.cell? ⟨w.heap.size, 2 + k, none⟩ = some (.bool (b.tk k)) := (cell_of_row _ _ _ _ _ _ HN.out).trans (HK.out.ct k hk64)
  have e3 : w1.cell? ⟨w.heap.size, 66 + k, none⟩ = some (.int .i64 (b.vl k)) := (cell_of_row _ _ _ _ _ _ HN.out).trans (HK.out.cv k hk64)
  have f2 : w1.frozen? ⟨w.heap.size, 2 + k, none⟩ = false := frozen_of_row _ _ _ _ _ HN.out
  have f3 : w1.frozen? ⟨w.heap.size, 66 + k, none⟩ = false := frozen_of_row _ _ _ _ _ HN.out
  obtain ⟨Aw, cw, kw, _, rw_, _⟩ := HK.out.cb
  have HRW := Lib.hid rw_
  have KW := Lib.hid kw
  clear rw_ kw
  have HS1 : Hid (w.heap.size + 2 ≤ w1.heap.size) := Lib.hid (by have := HB.out.size; simpa using this)
  have HXa : Hid (((w1.setCell ⟨w.heap.size, 2 + k, none⟩ (.bool false)).setCell ⟨w.heap.size, 66 + k, none⟩ (.int .i64 0)).heap[w.heap.size]? = some (.cells ((cs.setIfInBounds (2 + k) (.bool false)).setIfInBounds (66 + k) (.int .i64 0)) 33 (0, 0))) :=
    Lib.hid (heap_setCell_same _ _ _ _ _ _ (heap_setCell_same _ _ _ _ _ _ HN.out))
  have HYa : Hid (((w1.setCell ⟨w.heap.size, 2 + k, none⟩ (.bool false)).setCell ⟨w.heap.size, 66 + k, none⟩ (.int .i64 0)).heap[w.heap.size + 1]? = some (.cells zb 33 (0, 0))) :=
    Lib.hid (by rw [heap_setCell_other _ _ _ _ (by simp), heap_setCell_other _ _ _ _ (by simp)]; exact hM.out)
  have HBa : Hid (Below w.heap.size w ((w1.setCell ⟨w.heap.size, 2 + k, none⟩ (.bool false)).setCell ⟨w.heap.size, 66 + k, none⟩ (.int .i64 0))) := Lib.hid ((HBE.out.setCell (p := ⟨w.heap.size, 2 + k, none⟩) (Nat.le_refl _) _).setCell (p := ⟨w.heap.size, 66 + k, none⟩) (Nat.le_refl _) _)
  have HSa : Hid (w.heap.size + 2 ≤ ((w1.setCell ⟨w.heap.size, 2 + k, none⟩ (.bool false)).setCell ⟨w.heap.size, 66 + k, none⟩ (.int .i64 0)).heap.size) := Lib.hid (by have := HS1.out; simpa using this)
  have x130 : (((w1.setCell ⟨w.heap.size, 2 + k, none⟩ (.bool false)).setCell ⟨w.heap.size, 66 + k, none⟩ (.int .i64 0)).alloc (.cells #[] 3)).cell? ⟨w.heap.size, 130, none⟩ = some (.slice Aw b.bk.length cw) := bel_later (w := ((w1.setCell ⟨w.heap.size, 2 + k, none⟩ (.bool false)).setCell ⟨w.heap.size, 66 + k, none⟩ (.int .i64 0))) (by go_grown) ((cell_of_row _ _ 130 _ _ _ HXa.out).trans (by rw [set_get _ _ _ _ (by rw [Array.size_setIfInBounds, HK.out.size]; omega), if_neg (by omega), set_get _ _ _ _ (by rw [HK.out.size]; omega), if_neg (by omega)]; exact KW.out))
  have O1 : Hid ((((w1.setCell ⟨w.heap.size, 2 + k, none⟩ (.bool false)).setCell ⟨w.heap.size, 66 + k, none⟩ (.int .i64 0)).alloc (.cells #[] 3)).ownsRow w1.heap.size 3 1 (.slice (some ⟨w1.heap.size, 0, none⟩) 0 0) 0 []) := Lib.hid (by have h := World.ownsRow_made (base := w1.heap.size) (e := 3) (size := 1) ((w1.setCell ⟨w.heap.size, 2 + k, none⟩ (.bool false)).setCell ⟨w.heap.size, 66 + k, none⟩ (.int .i64 0)) #[] 0 (by simp) (Nat.zero_le _) (by simp); simpa using h)
  have HSX : Hid (((w1.setCell ⟨w.heap.size, 2 + k, none⟩ (.bool false)).setCell ⟨w.heap.size, 66 + k, none⟩ (.int .i64 0)).heap.size = w1.heap.size) := Lib.hid (by simp)
  have HW1 : Hid (Below ((w1.setCell ⟨w.heap.size, 2 + k, none⟩ (.bool false)).setCell ⟨w.heap.size, 66 + k, none⟩ (.int .i64 0)).heap.size ((w1.setCell ⟨w.heap.size, 2 + k, none⟩ (.bool false)).setCell ⟨w.heap.size, 66 + k, none⟩ (.int .i64 0)) (((w1.setCell ⟨w.heap.size, 2 + k, none⟩ (.bool false)).setCell ⟨w.heap.size, 66 + k, none⟩ (.int .i64 0)).alloc (.cells #[] 3))) := Lib.hid (by go_grown)
  have HRX := Lib.hid (fun V (h : Below ((w1.setCell ⟨w.heap.size, 2 + k, none⟩ (.bool false)).setCell ⟨w.heap.size, 66 + k, none⟩ (.int .i64 0)).heap.size ((w1.setCell ⟨w.heap.size, 2 + k, none⟩ (.bool false)).setCell ⟨w.heap.size, 66 + k, none⟩ (.int .i64 0)) V) => (HRW.out.later HBa.out).later h)
  go_wp2_with (first
    | (at_builtin; refine wpList_put_any (v := .slice (some ⟨w1.heap.size, 0, none⟩) 0 0) _ rfl (.tmp 17) (.tmp 19) rfl Aw b.bk.length cw b.bk rfl rfl O1.out (by omega) (by simp) rfl (by have := hbl; omega) (HRX.out _ HW1.out) ?_; intro v1 w2 r1 g1 o1; obtain ⟨A1, c1, rfl, _⟩ := own_form r1; simp only [Nat.zero_add, List.nil_append] at r1; have HR1 := Lib.hid r1; have HB2 := Lib.hid (HW1.out.grown g1 HW1.out.size (fun j hj => by have := HSX.out; simp [Value.ownBlock] at hj; omega)); clear r1 g1 o1)
    | (at_builtin; refine wpList_put_any (v := .slice A1 b.bk.length c1) _ rfl (.tmp 20) (.tmp 22) rfl (some ⟨w2.heap.size, 0, none⟩) 1 1 [(k : Int)] rfl rfl (HR1.out.alloc _) (by have := hbl; omega) (by have := HB2.out.size; have := HSX.out; rw [World.size_alloc]; omega) rfl (by omega) (rdi_lit w2 3 [(k : Int)]) ?_; intro v2 w3 r2 g2 o2; obtain ⟨A2, c2, rfl, hr2⟩ := own_form r2; have HR2 := Lib.hid r2; have HB3 := Lib.hid ((HB2.out.alloc HB2.out.size _).grown g2 (by have := HB2.out.size; rw [World.size_alloc]; omega) (fun j hj => by have := (HR1.out.lt j hj).1; have := HSX.out; omega)); have HN3 := Lib.hid (blk_bel HB3.out HXa.out); have HM3 := Lib.hid (blk_bel HB3.out HYa.out); have y130 : w3.cell? ⟨w.heap.size, 130, none⟩ = some (.slice Aw b.bk.length cw) := bel_later HB3.out ((cell_of_row _ _ 130 _ _ _ HXa.out).trans (by rw [set_get _ _ _ _ (by rw [Array.size_setIfInBounds, HK.out.size]; omega), if_neg (by omega), set_get _ _ _ _ (by rw [HK.out.size]; omega), if_neg (by omega)]; exact KW.out)); have z130 : w3.frozen? ⟨w.heap.size, 130, none⟩ = false := frozen_of_row _ _ _ _ _ HN3.out; clear r2 g2 o2 hr2; have HX : Hid ((w3.setCell ⟨w.heap.size, 130, none⟩ (.slice A2 (b.bk.length + 1) c2)).heap[w.heap.size]? = some (.cells (((cs.setIfInBounds (2 + k) (.bool false)).setIfInBounds (66 + k) (.int .i64 0)).setIfInBounds 130 (.slice A2 (b.bk.length + 1) c2)) 33 (0, 0))) := Lib.hid (heap_setCell_same _ _ _ _ _ _ HN3.out); have HY : Hid ((w3.setCell ⟨w.heap.size, 130, none⟩ (.slice A2 (b.bk.length + 1) c2)).heap[w.heap.size + 1]? = some (.cells zb 33 (0, 0))) := Lib.hid (by rw [heap_setCell_other _ _ _ _ (by simp)]; exact HM3.out); have HBZ : Hid (Below w.heap.size w (w3.setCell ⟨w.heap.size, 130, none⟩ (.slice A2 (b.bk.length + 1) c2))) := Lib.hid ((HBa.out.trans (HB3.out.mono HBa.out.size)).setCell (p := ⟨w.heap.size, 130, none⟩) (Nat.le_refl _) _); have HR2z := Lib.hid (HR2.out.kept (grown_set (N := w.heap.size) (j := 130) (v := (.slice A2 (b.bk.length + 1) c2))) (row_far HR2.out (by have := HS1.out; omega))); have hsz : (((cs.setIfInBounds (2 + k) (.bool false)).setIfInBounds (66 + k) (.int .i64 0)).setIfInBounds 130 (.slice A2 (b.bk.length + 1) c2)).size = 131 := (by rw [Array.size_setIfInBounds, Array.size_setIfInBounds, Array.size_setIfInBounds, HK.out.size]); have hone : (((cs.setIfInBounds (2 + k) (.bool false)).setIfInBounds (66 + k) (.int .i64 0)).setIfInBounds 130 (.slice A2 (b.bk.length + 1) c2)).all (·.oneCell') = true := one_set (one_set (one_set HK.out.one _ rfl) _ rfl) _ rfl; have HSZ := Lib.hid hsz; have HON := Lib.hid hone; obtain ⟨cs2, hcs2⟩ : ∃ c, c = (((cs.setIfInBounds (2 + k) (.bool false)).setIfInBounds (66 + k) (.int .i64 0)).setIfInBounds 130 (.slice A2 (b.bk.length + 1) c2)) := ⟨_, rfl⟩; rw [← hcs2] at HX HSZ HON; have HCS := Lib.hid hcs2; clear hcs2 hsz hone)
    | (refine wpList_load_row rfl 33 (.tmp 2) rfl w.heap.size rfl 33 cs2 (0, 0) _ HX.out Try.underlying33 rfl (by rw [HSZ.out]; exact info33) ?_)
    | (refine wpList_store_row rfl 33 (.tmp 4) (.tmp 25) rfl (w.heap.size + 1) cs2 rfl rfl 33 zb HY.out (by rw [HSZ.out]; exact info33) (by rw [HSZ.out]; exact zb_size) HON.out ?_; obtain ⟨WF, hWF⟩ : ∃ WF, WF = (w3.setCell ⟨w.heap.size, 130, none⟩ (.slice A2 (b.bk.length + 1) c2)).setRow (w.heap.size + 1) cs2 := ⟨_, rfl⟩; rw [← hWF]; have HWF := Lib.hid hWF; clear hWF)
    | fail)
  have hbF : Below w.heap.size w WF := by rw [HWF.out]; exact below_setRow HBZ.out (by omega) _
  have r2f := HR2z.out.kept (grown_row (N := w.heap.size + 1) (cs := cs2)) (row_far HR2z.out (by have := HS1.out; omega))
  rw [← HWF.out] at r2f
  obtain ⟨_, _, e2, d2⟩ := own_form r2f
  cases e2
  refine book_back rfl rfl rfl (by rw [HWF.out]; exact setRow_heap _ _ _ _ _ _ HY.out) HSZ.out ⟨cs2, rfl, ?_, hbF⟩ rfl
  have hfin := (((HK.out.later hbF).putT k hk64 false).putV k hk64 0).putB (A := A2) (c := c2) (l := b.bk ++ [(k : Int)]) (by have := own_le r2f; simp; omega) ⟨(by show Rd _ _ _ ((b.bk ++ [(k : Int)]).map (Value.int .i64)); rw [List.map_append]; exact d2), .inr (own_far r2f (by have := HS1.out; omega) hF)⟩
  rw [HCS.out]
  simp only [List.length_append, List.length_cons, List.length_nil, Nat.zero_add] at hfin
  exact hfin
end Go.Proofs.Ytpihoegikojlaaa
