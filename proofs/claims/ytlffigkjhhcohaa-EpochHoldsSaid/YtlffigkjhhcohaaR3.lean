/- The document's book: who enters, who leaves, who is in. -/
import Derived.Test.YtlffigkjhhcohaaR2
namespace Go.Proofs.Ytlffigkjhhcohaa
set_option linter.unusedSimpArgs false
open Go.RowKit Go.Maps
set_option linter.unusedVariables false
variable {F : Nat → Prop}

def leaveB (b : RB) (k : Nat) : RB := { b with inn := fun i => if i = k then false else b.inn i }
theorem RBk.leave {w w' : World} {cs : Array Value} {b : RB} (h : RBk F w cs b) (k : Nat) (hk : k < 65) (hb : Below w.heap.size w w') :
    RBk F w' (cs.setIfInBounds (2 + k) (.bool false)) (leaveB b k) := by
  obtain ⟨h1, h2, h3, h4, h5, h6, ⟨A, c, h7, h8⟩, ⟨A', c', h9, h10⟩⟩ := h.later hb
  have e : ∀ j, (cs.setIfInBounds (2 + k) (.bool false))[j]? = if j = 2 + k then some (.bool false) else cs[j]? := by
    intro j
    rw [set_get _ _ _ _ (by rw [h1]; omega)]
  refine ⟨by simp [h1], one_set h2 _ rfl, ?_, ?_, ?_, ?_, ⟨A, c, ?_, h8⟩, ⟨A', c', ?_, h10⟩⟩
  · rw [e, if_neg (by omega)]; exact h3
  · rw [e, if_neg (by omega)]; exact h4
  · intro i hi
    rw [e]
    by_cases c : i = k
    · subst c; simp [leaveB]
    · rw [if_neg (by omega), h5 i hi]; simp [leaveB, c]
  · intro i hi
    rw [e, if_neg (by omega)]; exact h6 i hi
  · rw [e, if_neg (by omega)]; exact h7
  · rw [e, if_neg (by omega)]; exact h9
theorem ask_in {b : RB} {k : Nat} {f : Bool} (hs : b.ss ≤ 64) (hA : askR b k f = 0) : k < 65 := by
  unfold askR at hA
  by_cases h1 : (k : Int) < 1
  · rw [if_pos h1] at hA; omega
  · rw [if_neg h1] at hA
    by_cases h2 : b.ss < (k : Int)
    · rw [if_pos h2] at hA; omega
    · omega
theorem ask_vals (b : RB) (who : Int) (f : Bool) : askR b who f = 0 ∨ askR b who f = 2 ∨ askR b who f = 15 := by
  unfold askR
  split
  · simp
  · split
    · simp
    · split <;> simp
set_option maxRecDepth 4000 in
set_option maxHeartbeats 1000000 in
theorem renter_no2 (cs : Array Value) (b : RB) (who : Int) (w : World) (hk : RBk F w cs b) (hs : b.ss ≤ 64) (hA : askR b who false = 2) :
    Calls Try.prog 13 #[.agg cs, .int .i64 who] w (BPost F w b 2) := by
  have hal := run_zb
  have A := Lib.hid (fun V (hV : RBk F V cs b) => (by have h := rask_any cs b who false V hV hs; rw [hA] at h; exact h : Calls Try.prog 30 _ V _))
  have HK := Lib.hid hk
  clear hk hA
  have HH : Hid (((w.alloc (.cells cs 32)).alloc (.cells zb 32)).heap[w.heap.size]? = some (.cells cs 32 (0, 0))) := Lib.hid (by have := heap_alloc2_old w (.cells cs 32) (.cells zb 32); exact this)
  have HZ : Hid (((w.alloc (.cells cs 32)).alloc (.cells zb 32)).heap[w.heap.size + 1]? = some (.cells zb 32 (0, 0))) := Lib.hid (by have := heap_alloc2_new w (.cells cs 32) (.cells zb 32); exact this)
  have HW : Hid (Below w.heap.size w ((w.alloc (.cells cs 32)).alloc (.cells zb 32))) := Lib.hid (by go_grown)
  go_enter Try.func13, Try.ntmps13
  go_wp2_with (first
    | (refine wpList_load_row rfl 32 (.tmp 2) rfl w.heap.size rfl 32 cs (0, 0) _ HH.out Try.underlying32 rfl (by rw [HK.out.size]; exact info32) ?_)
    | fail)
  refine (A.out _ (HK.out.later HW.out)).mono ?_
  rintro e w1 ⟨rfl, hb⟩
  have HN := Lib.hid (blk_bel hb HH.out)
  have hM := Lib.hid (blk_bel hb HZ.out)
  have HB := Lib.hid hb
  clear hb
  have HBE : Hid (Below w.heap.size w w1) := Lib.hid (HW.out.trans (HB.out.mono HW.out.size))
  have HX := HN
  have HY := hM
  have HRB := Lib.hid (HK.out.later HBE.out)
  have HK2 := Lib.hid (fun V hV => HK.out.later (w' := V) hV)
  obtain ⟨cs2, rfl⟩ : ∃ c, c = cs := ⟨_, rfl⟩
  go_wp2_with (first
    | (refine wpList_load_row rfl 32 (.tmp 2) rfl w.heap.size rfl 32 cs2 (0, 0) _ HX.out Try.underlying32 rfl (by rw [HRB.out.size]; exact info32) ?_)
    | (refine wpList_store_row rfl 32 (.tmp 4) (.tmp 20) rfl (w.heap.size + 1) cs2 rfl rfl 32 zb HY.out (by rw [HRB.out.size]; exact info32) (by rw [HRB.out.size]; exact zb_size) HRB.out.one ?_; obtain ⟨WF, hWF⟩ : ∃ WF, WF = (w1).setRow (w.heap.size + 1) cs2 := ⟨_, rfl⟩; rw [← hWF]; have HWF := Lib.hid hWF; clear hWF)
    | fail)
  have hbF : Below w.heap.size w WF := by rw [HWF.out]; exact below_setRow HBE.out (by omega) _
  exact book_back rfl rfl rfl (by rw [HWF.out]; exact setRow_heap _ _ _ _ _ _ HY.out) HRB.out.size ⟨cs2, rfl, HK2.out WF hbF, hbF⟩ rfl
set_option maxRecDepth 4000 in
set_option maxHeartbeats 1000000 in
theorem renter_no15 (cs : Array Value) (b : RB) (who : Int) (w : World) (hk : RBk F w cs b) (hs : b.ss ≤ 64) (hA : askR b who false = 15) :
    Calls Try.prog 13 #[.agg cs, .int .i64 who] w (BPost F w b 15) := by
  have hal := run_zb
  have A := Lib.hid (fun V (hV : RBk F V cs b) => (by have h := rask_any cs b who false V hV hs; rw [hA] at h; exact h : Calls Try.prog 30 _ V _))
  have HK := Lib.hid hk
  clear hk hA
  have HH : Hid (((w.alloc (.cells cs 32)).alloc (.cells zb 32)).heap[w.heap.size]? = some (.cells cs 32 (0, 0))) := Lib.hid (by have := heap_alloc2_old w (.cells cs 32) (.cells zb 32); exact this)
  have HZ : Hid (((w.alloc (.cells cs 32)).alloc (.cells zb 32)).heap[w.heap.size + 1]? = some (.cells zb 32 (0, 0))) := Lib.hid (by have := heap_alloc2_new w (.cells cs 32) (.cells zb 32); exact this)
  have HW : Hid (Below w.heap.size w ((w.alloc (.cells cs 32)).alloc (.cells zb 32))) := Lib.hid (by go_grown)
  go_enter Try.func13, Try.ntmps13
  go_wp2_with (first
    | (refine wpList_load_row rfl 32 (.tmp 2) rfl w.heap.size rfl 32 cs (0, 0) _ HH.out Try.underlying32 rfl (by rw [HK.out.size]; exact info32) ?_)
    | fail)
  refine (A.out _ (HK.out.later HW.out)).mono ?_
  rintro e w1 ⟨rfl, hb⟩
  have HN := Lib.hid (blk_bel hb HH.out)
  have hM := Lib.hid (blk_bel hb HZ.out)
  have HB := Lib.hid hb
  clear hb
  have HBE : Hid (Below w.heap.size w w1) := Lib.hid (HW.out.trans (HB.out.mono HW.out.size))
  have HX := HN
  have HY := hM
  have HRB := Lib.hid (HK.out.later HBE.out)
  have HK2 := Lib.hid (fun V hV => HK.out.later (w' := V) hV)
  obtain ⟨cs2, rfl⟩ : ∃ c, c = cs := ⟨_, rfl⟩
  go_wp2_with (first
    | (refine wpList_load_row rfl 32 (.tmp 2) rfl w.heap.size rfl 32 cs2 (0, 0) _ HX.out Try.underlying32 rfl (by rw [HRB.out.size]; exact info32) ?_)
    | (refine wpList_store_row rfl 32 (.tmp 4) (.tmp 20) rfl (w.heap.size + 1) cs2 rfl rfl 32 zb HY.out (by rw [HRB.out.size]; exact info32) (by rw [HRB.out.size]; exact zb_size) HRB.out.one ?_; obtain ⟨WF, hWF⟩ : ∃ WF, WF = (w1).setRow (w.heap.size + 1) cs2 := ⟨_, rfl⟩; rw [← hWF]; have HWF := Lib.hid hWF; clear hWF)
    | fail)
  have hbF : Below w.heap.size w WF := by rw [HWF.out]; exact below_setRow HBE.out (by omega) _
  exact book_back rfl rfl rfl (by rw [HWF.out]; exact setRow_heap _ _ _ _ _ _ HY.out) HRB.out.size ⟨cs2, rfl, HK2.out WF hbF, hbF⟩ rfl
set_option maxRecDepth 4000 in
set_option maxHeartbeats 1000000 in
theorem rleave_no2 (cs : Array Value) (b : RB) (who : Int) (w : World) (hk : RBk F w cs b) (hs : b.ss ≤ 64) (hA : askR b who true = 2) :
    Calls Try.prog 26 #[.agg cs, .int .i64 who] w (BPost F w b 2) := by
  have hal := run_zb
  have A := Lib.hid (fun V (hV : RBk F V cs b) => (by have h := rask_any cs b who true V hV hs; rw [hA] at h; exact h : Calls Try.prog 30 _ V _))
  have HK := Lib.hid hk
  clear hk hA
  have HH : Hid (((w.alloc (.cells cs 32)).alloc (.cells zb 32)).heap[w.heap.size]? = some (.cells cs 32 (0, 0))) := Lib.hid (by have := heap_alloc2_old w (.cells cs 32) (.cells zb 32); exact this)
  have HZ : Hid (((w.alloc (.cells cs 32)).alloc (.cells zb 32)).heap[w.heap.size + 1]? = some (.cells zb 32 (0, 0))) := Lib.hid (by have := heap_alloc2_new w (.cells cs 32) (.cells zb 32); exact this)
  have HW : Hid (Below w.heap.size w ((w.alloc (.cells cs 32)).alloc (.cells zb 32))) := Lib.hid (by go_grown)
  go_enter Try.func26, Try.ntmps26
  go_wp2_with (first
    | (refine wpList_load_row rfl 32 (.tmp 2) rfl w.heap.size rfl 32 cs (0, 0) _ HH.out Try.underlying32 rfl (by rw [HK.out.size]; exact info32) ?_)
    | fail)
  refine (A.out _ (HK.out.later HW.out)).mono ?_
  rintro e w1 ⟨rfl, hb⟩
  have HN := Lib.hid (blk_bel hb HH.out)
  have hM := Lib.hid (blk_bel hb HZ.out)
  have HB := Lib.hid hb
  clear hb
  have HBE : Hid (Below w.heap.size w w1) := Lib.hid (HW.out.trans (HB.out.mono HW.out.size))
  have HX := HN
  have HY := hM
  have HRB := Lib.hid (HK.out.later HBE.out)
  have HK2 := Lib.hid (fun V hV => HK.out.later (w' := V) hV)
  obtain ⟨cs2, rfl⟩ : ∃ c, c = cs := ⟨_, rfl⟩
  go_wp2_with (first
    | (refine wpList_load_row rfl 32 (.tmp 2) rfl w.heap.size rfl 32 cs2 (0, 0) _ HX.out Try.underlying32 rfl (by rw [HRB.out.size]; exact info32) ?_)
    | (refine wpList_store_row rfl 32 (.tmp 4) (.tmp 15) rfl (w.heap.size + 1) cs2 rfl rfl 32 zb HY.out (by rw [HRB.out.size]; exact info32) (by rw [HRB.out.size]; exact zb_size) HRB.out.one ?_; obtain ⟨WF, hWF⟩ : ∃ WF, WF = (w1).setRow (w.heap.size + 1) cs2 := ⟨_, rfl⟩; rw [← hWF]; have HWF := Lib.hid hWF; clear hWF)
    | fail)
  have hbF : Below w.heap.size w WF := by rw [HWF.out]; exact below_setRow HBE.out (by omega) _
  exact book_back rfl rfl rfl (by rw [HWF.out]; exact setRow_heap _ _ _ _ _ _ HY.out) HRB.out.size ⟨cs2, rfl, HK2.out WF hbF, hbF⟩ rfl
set_option maxRecDepth 4000 in
set_option maxHeartbeats 1000000 in
theorem rleave_no15 (cs : Array Value) (b : RB) (who : Int) (w : World) (hk : RBk F w cs b) (hs : b.ss ≤ 64) (hA : askR b who true = 15) :
    Calls Try.prog 26 #[.agg cs, .int .i64 who] w (BPost F w b 15) := by
  have hal := run_zb
  have A := Lib.hid (fun V (hV : RBk F V cs b) => (by have h := rask_any cs b who true V hV hs; rw [hA] at h; exact h : Calls Try.prog 30 _ V _))
  have HK := Lib.hid hk
  clear hk hA
  have HH : Hid (((w.alloc (.cells cs 32)).alloc (.cells zb 32)).heap[w.heap.size]? = some (.cells cs 32 (0, 0))) := Lib.hid (by have := heap_alloc2_old w (.cells cs 32) (.cells zb 32); exact this)
  have HZ : Hid (((w.alloc (.cells cs 32)).alloc (.cells zb 32)).heap[w.heap.size + 1]? = some (.cells zb 32 (0, 0))) := Lib.hid (by have := heap_alloc2_new w (.cells cs 32) (.cells zb 32); exact this)
  have HW : Hid (Below w.heap.size w ((w.alloc (.cells cs 32)).alloc (.cells zb 32))) := Lib.hid (by go_grown)
  go_enter Try.func26, Try.ntmps26
  go_wp2_with (first
    | (refine wpList_load_row rfl 32 (.tmp 2) rfl w.heap.size rfl 32 cs (0, 0) _ HH.out Try.underlying32 rfl (by rw [HK.out.size]; exact info32) ?_)
    | fail)
  refine (A.out _ (HK.out.later HW.out)).mono ?_
  rintro e w1 ⟨rfl, hb⟩
  have HN := Lib.hid (blk_bel hb HH.out)
  have hM := Lib.hid (blk_bel hb HZ.out)
  have HB := Lib.hid hb
  clear hb
  have HBE : Hid (Below w.heap.size w w1) := Lib.hid (HW.out.trans (HB.out.mono HW.out.size))
  have HX := HN
  have HY := hM
  have HRB := Lib.hid (HK.out.later HBE.out)
  have HK2 := Lib.hid (fun V hV => HK.out.later (w' := V) hV)
  obtain ⟨cs2, rfl⟩ : ∃ c, c = cs := ⟨_, rfl⟩
  go_wp2_with (first
    | (refine wpList_load_row rfl 32 (.tmp 2) rfl w.heap.size rfl 32 cs2 (0, 0) _ HX.out Try.underlying32 rfl (by rw [HRB.out.size]; exact info32) ?_)
    | (refine wpList_store_row rfl 32 (.tmp 4) (.tmp 15) rfl (w.heap.size + 1) cs2 rfl rfl 32 zb HY.out (by rw [HRB.out.size]; exact info32) (by rw [HRB.out.size]; exact zb_size) HRB.out.one ?_; obtain ⟨WF, hWF⟩ : ∃ WF, WF = (w1).setRow (w.heap.size + 1) cs2 := ⟨_, rfl⟩; rw [← hWF]; have HWF := Lib.hid hWF; clear hWF)
    | fail)
  have hbF : Below w.heap.size w WF := by rw [HWF.out]; exact below_setRow HBE.out (by omega) _
  exact book_back rfl rfl rfl (by rw [HWF.out]; exact setRow_heap _ _ _ _ _ _ HY.out) HRB.out.size ⟨cs2, rfl, HK2.out WF hbF, hbF⟩ rfl
set_option maxRecDepth 4000 in
set_option maxHeartbeats 1000000 in
theorem rleave_yes (cs : Array Value) (b : RB) (k : Nat) (w : World) (hk : RBk F w cs b) (hs : b.ss ≤ 64) (hA : askR b k true = 0) :
    Calls Try.prog 26 #[.agg cs, .int .i64 k] w (BPost F w (leaveB b k) 0) := by
  have hk64 := ask_in hs hA
  have hal := run_zb
  have A := Lib.hid (fun V (hV : RBk F V cs b) => (by have h := rask_any cs b k true V hV hs; rw [hA] at h; exact h : Calls Try.prog 30 _ V _))
  have HK := Lib.hid hk
  clear hk hA
  have HH : Hid (((w.alloc (.cells cs 32)).alloc (.cells zb 32)).heap[w.heap.size]? = some (.cells cs 32 (0, 0))) := Lib.hid (by have := heap_alloc2_old w (.cells cs 32) (.cells zb 32); exact this)
  have HZ : Hid (((w.alloc (.cells cs 32)).alloc (.cells zb 32)).heap[w.heap.size + 1]? = some (.cells zb 32 (0, 0))) := Lib.hid (by have := heap_alloc2_new w (.cells cs 32) (.cells zb 32); exact this)
  have HW : Hid (Below w.heap.size w ((w.alloc (.cells cs 32)).alloc (.cells zb 32))) := Lib.hid (by go_grown)
  go_enter Try.func26, Try.ntmps26
  go_wp2_with (first
    | (refine wpList_load_row rfl 32 (.tmp 2) rfl w.heap.size rfl 32 cs (0, 0) _ HH.out Try.underlying32 rfl (by rw [HK.out.size]; exact info32) ?_)
    | fail)
  refine (A.out _ (HK.out.later HW.out)).mono ?_
  rintro e w1 ⟨rfl, hb⟩
  have HN := Lib.hid (blk_bel hb HH.out)
  have hM := Lib.hid (blk_bel hb HZ.out)
  have HB := Lib.hid hb
  clear hb
  have hk65 : (k : Int) < 65 := by omega
  have hk0 : (0 : Int) ≤ (k : Int) := by omega
  have e2 : w1.cell? ⟨w.heap.size, 2 + k, none⟩ = some (.bool (b.inn k)) := (cell_of_row _ _ _ _ _ _ HN.out).trans (HK.out.ci k hk64)
  have f2 : w1.frozen? ⟨w.heap.size, 2 + k, none⟩ = false := frozen_of_row _ _ _ _ _ HN.out
  have HX : Hid ((w1.setCell ⟨w.heap.size, 2 + k, none⟩ (.bool false)).heap[w.heap.size]? = some (.cells (cs.setIfInBounds (2 + k) (.bool false)) 32 (0, 0))) :=
    Lib.hid (heap_setCell_same _ _ _ _ _ _ HN.out)
  have HY : Hid ((w1.setCell ⟨w.heap.size, 2 + k, none⟩ (.bool false)).heap[w.heap.size + 1]? = some (.cells zb 32 (0, 0))) :=
    Lib.hid (by rw [heap_setCell_other _ _ _ _ (by simp)]; exact hM.out)
  have HBE : Hid (Below w.heap.size w (w1.setCell ⟨w.heap.size, 2 + k, none⟩ (.bool false))) :=
    Lib.hid ((HW.out.trans (HB.out.mono HW.out.size)).setCell (p := ⟨w.heap.size, 2 + k, none⟩) (Nat.le_refl _) _)
  have HRB := Lib.hid (HK.out.leave k hk64 HBE.out)
  have HK2 := Lib.hid (fun V hV => HK.out.leave k hk64 (w' := V) hV)
  obtain ⟨cs2, hcs2⟩ : ∃ c, c = cs.setIfInBounds (2 + k) (.bool false) := ⟨_, rfl⟩
  rw [← hcs2] at HX HRB HK2
  clear hcs2
  go_wp2_with (first
    | (refine wpList_load_row rfl 32 (.tmp 2) rfl w.heap.size rfl 32 cs2 (0, 0) _ HX.out Try.underlying32 rfl (by rw [HRB.out.size]; exact info32) ?_)
    | (refine wpList_store_row rfl 32 (.tmp 4) (.tmp 15) rfl (w.heap.size + 1) cs2 rfl rfl 32 zb HY.out (by rw [HRB.out.size]; exact info32) (by rw [HRB.out.size]; exact zb_size) HRB.out.one ?_; obtain ⟨WF, hWF⟩ : ∃ WF, WF = (w1.setCell ⟨w.heap.size, 2 + k, none⟩ (.bool false)).setRow (w.heap.size + 1) cs2 := ⟨_, rfl⟩; rw [← hWF]; have HWF := Lib.hid hWF; clear hWF)
    | fail)
  have hbF : Below w.heap.size w WF := by rw [HWF.out]; exact below_setRow HBE.out (by omega) _
  exact book_back rfl rfl rfl (by rw [HWF.out]; exact setRow_heap _ _ _ _ _ _ HY.out) HRB.out.size ⟨cs2, rfl, HK2.out WF hbF, hbF⟩ rfl

/-- Who enters, who leaves: the book behind it. -/
def enterR (b : RB) (who : Int) : RB := if askR b who false = 0 then enterB b who.toNat else b
def leaveR (b : RB) (who : Int) : RB := if askR b who true = 0 then leaveB b who.toNat else b
theorem ask_pos {b : RB} {who : Int} {f : Bool} (h : askR b who f = 0) : 1 ≤ who := by
  unfold askR at h
  by_cases h1 : who < 1
  · rw [if_pos h1] at h; omega
  · omega
theorem renter_any (cs : Array Value) (b : RB) (who : Int) (w : World) (hk : RBk F w cs b) (hs : b.ss ≤ 64) :
    Calls Try.prog 13 #[.agg cs, .int .i64 who] w (BPost F w (enterR b who) (askR b who false)) := by
  unfold enterR
  rcases ask_vals b who false with h | h | h
  · obtain ⟨k, rfl⟩ : ∃ k : Nat, who = k := ⟨who.toNat, by have := ask_pos h; omega⟩
    rw [if_pos h, h, Int.toNat_natCast]; exact renter_yes cs b k w hk hs h
  · rw [if_neg (by omega), h]; exact renter_no2 cs b who w hk hs h
  · rw [if_neg (by omega), h]; exact renter_no15 cs b who w hk hs h
theorem rleave_any (cs : Array Value) (b : RB) (who : Int) (w : World) (hk : RBk F w cs b) (hs : b.ss ≤ 64) :
    Calls Try.prog 26 #[.agg cs, .int .i64 who] w (BPost F w (leaveR b who) (askR b who true)) := by
  unfold leaveR
  rcases ask_vals b who true with h | h | h
  · obtain ⟨k, rfl⟩ : ∃ k : Nat, who = k := ⟨who.toNat, by have := ask_pos h; omega⟩
    rw [if_pos h, h, Int.toNat_natCast]; exact rleave_yes cs b k w hk hs h
  · rw [if_neg (by omega), h]; exact rleave_no2 cs b who w hk hs h
  · rw [if_neg (by omega), h]; exact rleave_no15 cs b who w hk hs h
end Go.Proofs.Ytlffigkjhhcohaa
