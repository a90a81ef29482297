/- The document's arena: Set; Give of a place that is not taken. -/
import Derived.Test.YtpihoegikojlaaaB2
namespace Go.Proofs.Ytpihoegikojlaaa
set_option linter.unusedSimpArgs false
open Go.RowKit Go.Maps
set_option linter.unusedVariables false
variable {F : Nat → Prop}

def zb : Array Value := #[.int .i64 0, .int .i64 0] ++ Array.replicate 64 (.bool false) ++ Array.replicate 64 (.int .i64 0) ++ #[.slice none 0 0]
theorem run_zb (w : World) : (zeroValue 33).run Try.prog w = .ok (.agg zb) w := by kernel_rfl
theorem zb_size : zb.size = 131 := by simp [zb]
theorem info33 : (Try.prog.info? 33).map (·.size) = some 131 := by kernel_rfl
/-- What a call hands back that hands back an arena and a number. -/
def BPost (F : Nat → Prop) (w : World) (b' : AB) (v : Int) (e : Ending) (w' : World) : Prop := ∃ cs', e = .returned (.tuple #[.agg cs', .int .i64 v]) ∧ RBk F w' cs' b' ∧ Below w.heap.size w w'
def tkS (b : AB) (k : Nat) (f : Bool) : AB := { b with tk := fun i => if i = k then f else b.tk i }
def vlS (b : AB) (k : Nat) (v : Int) : AB := { b with vl := fun i => if i = k then v else b.vl i }
def bkS (b : AB) (l : List Int) : AB := { b with bk := l }
def topS (b : AB) (n : Nat) : AB := { b with top := n }
theorem RBk.putT {w : World} {cs : Array Value} {b : AB} (h : RBk F w cs b) (k : Nat) (hk : k < 64) (f : Bool) : RBk F w (cs.setIfInBounds (2 + k) (.bool f)) (tkS b k f) := by
  obtain ⟨h1, h2, h3, h4, h5, h6, ⟨A, c, h7, h8⟩⟩ := h
  have e : ∀ j, (cs.setIfInBounds (2 + k) (.bool f))[j]? = if j = 2 + k then some (.bool f) else cs[j]? := fun j => set_get _ _ _ _ (by rw [h1]; omega)
  refine ⟨by simp [h1], one_set h2 _ rfl, ?_, ?_, ?_, ?_, ⟨A, c, ?_, h8⟩⟩
  · rw [e, if_neg (by omega)]; exact h3
  · rw [e, if_neg (by omega)]; exact h4
  · intro i hi
    rw [e]
    by_cases c : i = k
    · subst c; simp [tkS]
    · rw [if_neg (by omega), h5 i hi]; simp [tkS, c]
  · intro i hi
    rw [e, if_neg (by omega)]; exact h6 i hi
  · rw [e, if_neg (by omega)]; exact h7
theorem RBk.putV {w : World} {cs : Array Value} {b : AB} (h : RBk F w cs b) (k : Nat) (hk : k < 64) (v : Int) : RBk F w (cs.setIfInBounds (66 + k) (.int .i64 v)) (vlS b k v) := by
  obtain ⟨h1, h2, h3, h4, h5, h6, ⟨A, c, h7, h8⟩⟩ := h
  have e : ∀ j, (cs.setIfInBounds (66 + k) (.int .i64 v))[j]? = if j = 66 + k then some (.int .i64 v) else cs[j]? := fun j => set_get _ _ _ _ (by rw [h1]; omega)
  refine ⟨by simp [h1], one_set h2 _ rfl, ?_, ?_, ?_, ?_, ⟨A, c, ?_, h8⟩⟩
  · rw [e, if_neg (by omega)]; exact h3
  · rw [e, if_neg (by omega)]; exact h4
  · intro i hi
    rw [e, if_neg (by omega)]; exact h5 i hi
  · intro i hi
    rw [e]
    by_cases c : i = k
    · subst c; simp [vlS]
    · rw [if_neg (by omega), h6 i hi]; simp [vlS, c]
  · rw [e, if_neg (by omega)]; exact h7
theorem RBk.putB {w : World} {cs : Array Value} {b : AB} (h : RBk F w cs b) {A : Option Addr} {c : Nat} {l : List Int} (hc : l.length ≤ c) (hA : RdF F w A l) : RBk F w (cs.setIfInBounds 130 (.slice A l.length c)) (bkS b l) := by
  obtain ⟨h1, h2, h3, h4, h5, h6, _⟩ := h
  have e : ∀ j, (cs.setIfInBounds 130 (.slice A l.length c))[j]? = if j = 130 then some (.slice A l.length c) else cs[j]? := fun j => set_get _ _ _ _ (by rw [h1]; omega)
  refine ⟨by simp [h1], one_set h2 _ rfl, ?_, ?_, ?_, ?_, ⟨A, c, ?_, hc, hA⟩⟩
  · rw [e, if_neg (by omega)]; exact h3
  · rw [e, if_neg (by omega)]; exact h4
  · intro i hi
    rw [e, if_neg (by omega)]; exact h5 i hi
  · intro i hi
    rw [e, if_neg (by omega)]; exact h6 i hi
  · rw [e, if_pos rfl]; rfl
theorem RBk.putN {w : World} {cs : Array Value} {b : AB} (h : RBk F w cs b) (n : Nat) : RBk F w (cs.setIfInBounds 1 (.int .i64 n)) (topS b n) := by
  obtain ⟨h1, h2, h3, h4, h5, h6, ⟨A, c, h7, h8⟩⟩ := h
  have e : ∀ j, (cs.setIfInBounds 1 (.int .i64 n))[j]? = if j = 1 then some (.int .i64 n) else cs[j]? := fun j => set_get _ _ _ _ (by rw [h1]; omega)
  refine ⟨by simp [h1], one_set h2 _ rfl, ?_, ?_, ?_, ?_, ⟨A, c, ?_, h8⟩⟩
  · rw [e, if_neg (by omega)]; exact h3
  · rw [e, if_pos rfl]; rfl
  · intro i hi
    rw [e, if_neg (by omega)]; exact h5 i hi
  · intro i hi
    rw [e, if_neg (by omega)]; exact h6 i hi
  · rw [e, if_neg (by omega)]; exact h7

theorem own_le {w : World} {base n c size : Nat} {e : TypeId} {A : Option Addr} {xs : List Value} (h : w.ownsRow base e size (.slice A n c) n xs) : n ≤ c := by
  rcases Nat.eq_zero_or_pos n with h0 | h0
  · omega
  · exact (own_cap h h0).1
/-- An arena and a number are handed back. -/
theorem book_back {fn : Func} {p q : Tmp} {R : Ending → World → Prop} {a : Act} {W : World} {g : Nat} {cs : Array Value} {v : Int} (hr : fn.results = #[.cell p 33, .tmp q]) (hp : a.tmps.getD p undef = .pointer (some ⟨g, 0, none⟩)) (hq : a.tmps.getD q undef = .int .i64 v)
    (hg : W.heap[g]? = some (.cells cs 33 (0, 0))) (hs : cs.size = 131) (h : R (.returned (.tuple #[.agg cs, .int .i64 v])) W) (hd : a.defers = []) : bodyPost Try.prog fn R Exit.ret a W := by
  refine bodyPost_ret (v := .tuple #[.agg cs, .int .i64 v]) ?_ hd h
  have hp' : a.tmps[p]?.getD undef = .pointer (some ⟨g, 0, none⟩) := by simpa using hp
  have hq' : a.tmps[q]?.getD undef = .int .i64 v := by simpa using hq
  have hl := run_loadVar_row (P := Try.prog) W g 33 33 cs (0, 0) _ hg Try.underlying33 rfl (by rw [hs]; exact info33)
  simp [results, hr, hp', hq', asAddr, hl]

set_option maxRecDepth 4000 in
set_option maxHeartbeats 1000000 in
theorem dset_no (cs : Array Value) (b : AB) (i v : Int) (w : World) (hk : RBk F w cs b)  (hT : thereD b i = false) :
    Calls Try.prog 28 #[.agg cs, .int .i64 i, .int .i64 v] w (BPost F w b 14) := by
  have hal := run_zb
  have A := Lib.hid (fun V (hV : RBk F V cs b) => (by have h := there_any cs b i V hV; rw [hT] at h; exact h : Calls Try.prog 30 _ V _))
  have HK := Lib.hid hk
  clear hk hT
  have HH : Hid (((w.alloc (.cells cs 33)).alloc (.cells zb 33)).heap[w.heap.size]? = some (.cells cs 33 (0, 0))) := Lib.hid (by have := heap_alloc2_old w (.cells cs 33) (.cells zb 33); exact this)
  have HZ : Hid (((w.alloc (.cells cs 33)).alloc (.cells zb 33)).heap[w.heap.size + 1]? = some (.cells zb 33 (0, 0))) := Lib.hid (by have := heap_alloc2_new w (.cells cs 33) (.cells zb 33); exact this)
  have HW : Hid (Below w.heap.size w ((w.alloc (.cells cs 33)).alloc (.cells zb 33))) := Lib.hid (by go_grown)
  go_enter Try.func28, Try.ntmps28
  go_wp2_with (first
    | (refine wpList_load_row rfl 33 (.tmp 3) rfl w.heap.size rfl 33 cs (0, 0) _ HH.out Try.underlying33 rfl (by rw [HK.out.size]; exact info33) ?_)
    | fail)
  refine (A.out _ (HK.out.later HW.out)).mono ?_
  rintro e w1 ⟨rfl, hb⟩
  have HN := Lib.hid (blk_bel hb HH.out)
  have hM := Lib.hid (blk_bel hb HZ.out)
  have HB := Lib.hid hb
  clear hb
  have HBE : Hid (Below w.heap.size w w1) := Lib.hid (HW.out.trans (HB.out.mono HW.out.size))
  have HX := HN
  have HY := hM
  have HRB := Lib.hid (HK.out.later HBE.out)
  have HK2 := Lib.hid (fun V hV => HK.out.later (w' := V) hV)
  obtain ⟨cs2, rfl⟩ : ∃ c, c = cs := ⟨_, rfl⟩
  go_wp2_with (first
    | (refine wpList_load_row rfl 33 (.tmp 3) rfl w.heap.size rfl 33 cs2 (0, 0) _ HX.out Try.underlying33 rfl (by rw [HRB.out.size]; exact info33) ?_)
    | (refine wpList_store_row rfl 33 (.tmp 6) (.tmp 12) rfl (w.heap.size + 1) cs2 rfl rfl 33 zb HY.out (by rw [HRB.out.size]; exact info33) (by rw [HRB.out.size]; exact zb_size) HRB.out.one ?_; obtain ⟨WF, hWF⟩ : ∃ WF, WF = (w1).setRow (w.heap.size + 1) cs2 := ⟨_, rfl⟩; rw [← hWF]; have HWF := Lib.hid hWF; clear hWF)
    | fail)
  have hbF : Below w.heap.size w WF := by rw [HWF.out]; exact below_setRow HBE.out (by omega) _
  exact book_back rfl rfl rfl (by rw [HWF.out]; exact setRow_heap _ _ _ _ _ _ HY.out) HRB.out.size ⟨cs2, rfl, HK2.out WF hbF, hbF⟩ rfl

set_option maxRecDepth 4000 in
set_option maxHeartbeats 1000000 in
theorem dset_yes (cs : Array Value) (b : AB) (i v : Int) (w : World) (hk : RBk F w cs b)  (hT : thereD b i = true) :
    Calls Try.prog 28 #[.agg cs, .int .i64 i, .int .i64 v] w (BPost F w (vlS b i.toNat v) 0) := by
  have hal := run_zb
  obtain ⟨k, rfl⟩ : ∃ k : Nat, i = k := ⟨i.toNat, by have := (there_in hT).1; omega⟩
  have hk64 : k < 64 := by have := (there_in hT).2.1; omega
  have hk65 : (k : Int) < 64 := by omega
  have hk0 : (0 : Int) ≤ (k : Int) := by omega
  have hkt : thereD b (k : Int) = true := hT
  rw [Int.toNat_natCast]
  clear hkt
  have A := Lib.hid (fun V (hV : RBk F V cs b) => (by have h := there_any cs b k V hV; rw [hT] at h; exact h : Calls Try.prog 30 _ V _))
  have HK := Lib.hid hk
  clear hk hT
  have HH : Hid (((w.alloc (.cells cs 33)).alloc (.cells zb 33)).heap[w.heap.size]? = some (.cells cs 33 (0, 0))) := Lib.hid (by have := heap_alloc2_old w (.cells cs 33) (.cells zb 33); exact this)
  have HZ : Hid (((w.alloc (.cells cs 33)).alloc (.cells zb 33)).heap[w.heap.size + 1]? = some (.cells zb 33 (0, 0))) := Lib.hid (by have := heap_alloc2_new w (.cells cs 33) (.cells zb 33); exact this)
  have HW : Hid (Below w.heap.size w ((w.alloc (.cells cs 33)).alloc (.cells zb 33))) := Lib.hid (by go_grown)
  go_enter Try.func28, Try.ntmps28
  go_wp2_with (first
    | (refine wpList_load_row rfl 33 (.tmp 3) rfl w.heap.size rfl 33 cs (0, 0) _ HH.out Try.underlying33 rfl (by rw [HK.out.size]; exact info33) ?_)
    | fail)
  refine (A.out _ (HK.out.later HW.out)).mono ?_
  rintro e w1 ⟨rfl, hb⟩
  have HN := Lib.hid (blk_bel hb HH.out)
  have hM := Lib.hid (blk_bel hb HZ.out)
  have HB := Lib.hid hb
  clear hb
  have HBE : Hid (Below w.heap.size w w1) := Lib.hid (HW.out.trans (HB.out.mono HW.out.size))
  have e3 : w1.cell? ⟨w.heap.size, 66 + k, none⟩ = some (.int .i64 (b.vl k)) := (cell_of_row _ _ _ _ _ _ HN.out).trans (HK.out.cv k hk64)
  have f3 : w1.frozen? ⟨w.heap.size, 66 + k, none⟩ = false := frozen_of_row _ _ _ _ _ HN.out
  have HX : Hid ((w1.setCell ⟨w.heap.size, 66 + k, none⟩ (.int .i64 v)).heap[w.heap.size]? = some (.cells (cs.setIfInBounds (66 + k) (.int .i64 v)) 33 (0, 0))) :=
    Lib.hid (heap_setCell_same _ _ _ _ _ _ HN.out)
  have HY : Hid ((w1.setCell ⟨w.heap.size, 66 + k, none⟩ (.int .i64 v)).heap[w.heap.size + 1]? = some (.cells zb 33 (0, 0))) :=
    Lib.hid (by rw [heap_setCell_other _ _ _ _ (by simp)]; exact hM.out)
  have HBE : Hid (Below w.heap.size w (w1.setCell ⟨w.heap.size, 66 + k, none⟩ (.int .i64 v))) := Lib.hid (HBE.out.setCell (p := ⟨w.heap.size, 66 + k, none⟩) (Nat.le_refl _) _)
  have HRB := Lib.hid ((HK.out.later HBE.out).putV k hk64 v)
  have HK2 := Lib.hid (fun V (hV : Below w.heap.size w V) => (HK.out.later hV).putV k hk64 v)
  obtain ⟨cs2, hcs2⟩ : ∃ c, c = cs.setIfInBounds (66 + k) (.int .i64 v) := ⟨_, rfl⟩
  rw [← hcs2] at HX HRB HK2
  clear hcs2
  go_wp2_with (first
    | (refine wpList_load_row rfl 33 (.tmp 3) rfl w.heap.size rfl 33 cs2 (0, 0) _ HX.out Try.underlying33 rfl (by rw [HRB.out.size]; exact info33) ?_)
    | (refine wpList_store_row rfl 33 (.tmp 6) (.tmp 17) rfl (w.heap.size + 1) cs2 rfl rfl 33 zb HY.out (by rw [HRB.out.size]; exact info33) (by rw [HRB.out.size]; exact zb_size) HRB.out.one ?_; obtain ⟨WF, hWF⟩ : ∃ WF, WF = (w1.setCell ⟨w.heap.size, 66 + k, none⟩ (.int .i64 v)).setRow (w.heap.size + 1) cs2 := ⟨_, rfl⟩; rw [← hWF]; have HWF := Lib.hid hWF; clear hWF)
    | fail)
  have hbF : Below w.heap.size w WF := by rw [HWF.out]; exact below_setRow HBE.out (by omega) _
  exact book_back rfl rfl rfl (by rw [HWF.out]; exact setRow_heap _ _ _ _ _ _ HY.out) HRB.out.size ⟨cs2, rfl, HK2.out WF hbF, hbF⟩ rfl

set_option maxRecDepth 4000 in
set_option maxHeartbeats 1000000 in
theorem dgive_no (cs : Array Value) (b : AB) (i : Int) (w : World) (hk : RBk F w cs b)  (hT : thereD b i = false) :
    Calls Try.prog 27 #[.agg cs, .int .i64 i] w (BPost F w b 14) := by
  have hal := run_zb
  have A := Lib.hid (fun V (hV : RBk F V cs b) => (by have h := there_any cs b i V hV; rw [hT] at h; exact h : Calls Try.prog 30 _ V _))
  have HK := Lib.hid hk
  clear hk hT
  have HH : Hid (((w.alloc (.cells cs 33)).alloc (.cells zb 33)).heap[w.heap.size]? = some (.cells cs 33 (0, 0))) := Lib.hid (by have := heap_alloc2_old w (.cells cs 33) (.cells zb 33); exact this)
  have HZ : Hid (((w.alloc (.cells cs 33)).alloc (.cells zb 33)).heap[w.heap.size + 1]? = some (.cells zb 33 (0, 0))) := Lib.hid (by have := heap_alloc2_new w (.cells cs 33) (.cells zb 33); exact this)
  have HW : Hid (Below w.heap.size w ((w.alloc (.cells cs 33)).alloc (.cells zb 33))) := Lib.hid (by go_grown)
  go_enter Try.func27, Try.ntmps27
  go_wp2_with (first
    | (refine wpList_load_row rfl 33 (.tmp 2) rfl w.heap.size rfl 33 cs (0, 0) _ HH.out Try.underlying33 rfl (by rw [HK.out.size]; exact info33) ?_)
    | fail)
  refine (A.out _ (HK.out.later HW.out)).mono ?_
  rintro e w1 ⟨rfl, hb⟩
  have HN := Lib.hid (blk_bel hb HH.out)
  have hM := Lib.hid (blk_bel hb HZ.out)
  have HB := Lib.hid hb
  clear hb
  have HBE : Hid (Below w.heap.size w w1) := Lib.hid (HW.out.trans (HB.out.mono HW.out.size))
  have HX := HN
  have HY := hM
  have HRB := Lib.hid (HK.out.later HBE.out)
  have HK2 := Lib.hid (fun V hV => HK.out.later (w' := V) hV)
  obtain ⟨cs2, rfl⟩ : ∃ c, c = cs := ⟨_, rfl⟩
  go_wp2_with (first
    | (refine wpList_load_row rfl 33 (.tmp 2) rfl w.heap.size rfl 33 cs2 (0, 0) _ HX.out Try.underlying33 rfl (by rw [HRB.out.size]; exact info33) ?_)
    | (refine wpList_store_row rfl 33 (.tmp 4) (.tmp 10) rfl (w.heap.size + 1) cs2 rfl rfl 33 zb HY.out (by rw [HRB.out.size]; exact info33) (by rw [HRB.out.size]; exact zb_size) HRB.out.one ?_; obtain ⟨WF, hWF⟩ : ∃ WF, WF = (w1).setRow (w.heap.size + 1) cs2 := ⟨_, rfl⟩; rw [← hWF]; have HWF := Lib.hid hWF; clear hWF)
    | fail)
  have hbF : Below w.heap.size w WF := by rw [HWF.out]; exact below_setRow HBE.out (by omega) _
  exact book_back rfl rfl rfl (by rw [HWF.out]; exact setRow_heap _ _ _ _ _ _ HY.out) HRB.out.size ⟨cs2, rfl, HK2.out WF hbF, hbF⟩ rfl
end Go.Proofs.Ytpihoegikojlaaa
