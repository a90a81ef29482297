/- The document's book: who enters. -/
import Derived.Test.YtlffigkjhhcohaaR1
import Derived.Laws.CopyOwn
namespace Go.Proofs.Ytlffigkjhhcohaa
set_option linter.unusedSimpArgs false
open Go.RowKit Go.Maps
set_option linter.unusedVariables false
variable {F : Nat → Prop}

def zb : Array Value := #[.int .i64 0, .int .i64 0] ++ Array.replicate 65 (.bool false) ++ Array.replicate 65 (.int .i64 0) ++ #[.slice none 0 0, .slice none 0 0]
theorem run_zb (w : World) : (zeroValue 32).run Try.prog w = .ok (.agg zb) w := by kernel_rfl
theorem zb_size : zb.size = 134 := by simp [zb]
theorem info32 : (Try.prog.info? 32).map (·.size) = some 134 := by kernel_rfl

theorem blk_bel {W w1 : World} (hb : Below W.heap.size W w1) {g : Nat} {o : Obj} (h : W.heap[g]? = some o) : w1.heap[g]? = some o := by
  have hlt : g < W.heap.size := (Array.getElem?_eq_some_iff.1 h).1
  rw [hb.block g hlt]; exact h
/-- What a call hands back that hands back a book and a number. -/
def BPost (F : Nat → Prop) (w : World) (b' : RB) (v : Int) (e : Ending) (w' : World) : Prop := ∃ cs', e = .returned (.tuple #[.agg cs', .int .i64 v]) ∧ RBk F w' cs' b' ∧ Below w.heap.size w w'
def enterB (b : RB) (k : Nat) : RB := { b with inn := fun i => if i = k then true else b.inn i, said := fun i => if i = k then b.now else b.said i }
theorem set_get (cs : Array Value) (i j : Nat) (v : Value) (h : i < cs.size) : (cs.setIfInBounds i v)[j]? = if j = i then some v else cs[j]? := by
  rw [Array.getElem?_setIfInBounds]
  by_cases c : j = i
  · subst c; simp [h]
  · rw [if_neg (fun e => c e.symm), if_neg c]
theorem one_set {cs : Array Value} (h : cs.all (·.oneCell') = true) (i : Nat) {v : Value} (hv : v.oneCell' = true) : (cs.setIfInBounds i v).all (·.oneCell') = true := by
  rw [Array.all_eq_true_iff_forall_mem] at h ⊢
  intro x hx
  rcases Array.mem_or_eq_of_mem_setIfInBounds hx with h1 | h1
  · exact h x h1
  · rw [h1]; exact hv
theorem RBk.enter {w w' : World} {cs : Array Value} {b : RB} (h : RBk F w cs b) (k : Nat) (hk : k < 65) (hb : Below w.heap.size w w') :
    RBk F w' ((cs.setIfInBounds (2 + k) (.bool true)).setIfInBounds (67 + k) (.int .i64 b.now)) (enterB b k) := by
  obtain ⟨h1, h2, h3, h4, h5, h6, ⟨A, c, h7, h8⟩, ⟨A', c', h9, h10⟩⟩ := h.later hb
  have e : ∀ j, ((cs.setIfInBounds (2 + k) (.bool true)).setIfInBounds (67 + k) (.int .i64 b.now))[j]? = if j = 67 + k then some (.int .i64 b.now) else if j = 2 + k then some (.bool true) else cs[j]? := by
    intro j
    rw [set_get _ _ _ _ (by rw [Array.size_setIfInBounds, h1]; omega), set_get _ _ _ _ (by rw [h1]; omega)]
  refine ⟨by simp [h1], one_set (one_set h2 _ rfl) _ rfl, ?_, ?_, ?_, ?_, ⟨A, c, ?_, h8⟩, ⟨A', c', ?_, h10⟩⟩
  · rw [e, if_neg (by omega), if_neg (by omega)]; exact h3
  · rw [e, if_neg (by omega), if_neg (by omega)]; exact h4
  · intro i hi
    rw [e, if_neg (by omega)]
    by_cases c : i = k
    · subst c; simp [enterB]
    · rw [if_neg (by omega), h5 i hi]; simp [enterB, c]
  · intro i hi
    rw [e]
    by_cases c : i = k
    · subst c; simp [enterB]
    · rw [if_neg (by omega), if_neg (by omega), h6 i hi]; simp [enterB, c]
  · rw [e, if_neg (by omega), if_neg (by omega)]; exact h7
  · rw [e, if_neg (by omega), if_neg (by omega)]; exact h9

/-- A book and a number are handed back. -/
theorem book_back {fn : Func} {p q : Tmp} {R : Ending → World → Prop} {a : Act} {W : World} {g : Nat} {cs : Array Value} {v : Int} (hr : fn.results = #[.cell p 32, .tmp q]) (hp : a.tmps.getD p undef = .pointer (some ⟨g, 0, none⟩)) (hq : a.tmps.getD q undef = .int .i64 v)
    (hg : W.heap[g]? = some (.cells cs 32 (0, 0))) (hs : cs.size = 134) (h : R (.returned (.tuple #[.agg cs, .int .i64 v])) W) (hd : a.defers = []) : bodyPost Try.prog fn R Exit.ret a W := by
  refine bodyPost_ret (v := .tuple #[.agg cs, .int .i64 v]) ?_ hd h
  have hp' : a.tmps[p]?.getD undef = .pointer (some ⟨g, 0, none⟩) := by simpa using hp
  have hq' : a.tmps[q]?.getD undef = .int .i64 v := by simpa using hq
  have hl := run_loadVar_row (P := Try.prog) W g 32 32 cs (0, 0) _ hg Try.underlying32 rfl (by rw [hs]; exact info32)
  simp [results, hr, hp', hq', asAddr, hl]
set_option maxRecDepth 4000 in
set_option maxHeartbeats 1000000 in
theorem renter_yes (cs : Array Value) (b : RB) (k : Nat) (w : World) (hk : RBk F w cs b) (hs : b.ss ≤ 64) (hA : askR b k false = 0) :
    Calls Try.prog 13 #[.agg cs, .int .i64 k] w (BPost F w (enterB b k) 0) := by
  have hk64 : k < 65 := by
    unfold askR at hA
    by_cases h1 : (k : Int) < 1
    · rw [if_pos h1] at hA; omega
    · rw [if_neg h1] at hA
      by_cases h2 : b.ss < (k : Int)
      · rw [if_pos h2] at hA; omega
      · omega
  have hal := run_zb
  have A := Lib.hid (fun V (hV : RBk F V cs b) => (by have h := rask_any cs b k false V hV hs; rw [hA] at h; exact h : Calls Try.prog 30 _ V _))
  have HK := Lib.hid hk
  clear hk hA
  have HH : Hid (((w.alloc (.cells cs 32)).alloc (.cells zb 32)).heap[w.heap.size]? = some (.cells cs 32 (0, 0))) := Lib.hid (by have := heap_alloc2_old w (.cells cs 32) (.cells zb 32); exact this)
  have HZ : Hid (((w.alloc (.cells cs 32)).alloc (.cells zb 32)).heap[w.heap.size + 1]? = some (.cells zb 32 (0, 0))) := Lib.hid (by have := heap_alloc2_new w (.cells cs 32) (.cells zb 32); exact this)
  have HW : Hid (Below w.heap.size w ((w.alloc (.cells cs 32)).alloc (.cells zb 32))) := Lib.hid (by go_grown)
  go_enter Try.func13, Try.ntmps13
  go_wp2_with (first
    | (refine wpList_load_row rfl 32 (.tmp 2) rfl w.heap.size rfl 32 cs (0, 0) _ HH.out Try.underlying32 rfl (by rw [HK.out.size]; exact info32) ?_)
    | fail)
  refine (A.out _ (HK.out.later HW.out)).mono ?_
  rintro e w1 ⟨rfl, hb⟩
  have hN := blk_bel hb HH.out
  have hM := Lib.hid (blk_bel hb HZ.out)
  have e1 : w1.cell? ⟨w.heap.size, 1, none⟩ = some (.int .i64 b.now) := (cell_of_row _ _ 1 _ _ _ hN).trans HK.out.c1
  have e2 : w1.cell? ⟨w.heap.size, 2 + k, none⟩ = some (.bool (b.inn k)) := (cell_of_row _ _ _ _ _ _ hN).trans (HK.out.ci k hk64)
  have e3 : w1.cell? ⟨w.heap.size, 67 + k, none⟩ = some (.int .i64 (b.said k)) := (cell_of_row _ _ _ _ _ _ hN).trans (HK.out.cs_ k hk64)
  have f2 : w1.frozen? ⟨w.heap.size, 2 + k, none⟩ = false := frozen_of_row _ _ _ _ _ hN
  have f3 : w1.frozen? ⟨w.heap.size, 67 + k, none⟩ = false := frozen_of_row _ _ _ _ _ hN
  have HN := Lib.hid hN
  have HB := Lib.hid hb
  have hk65 : (k : Int) < 65 := by omega
  have hk0 : (0 : Int) ≤ (k : Int) := by omega
  clear hN hb
  have HX : Hid (((w1.setCell ⟨w.heap.size, 2 + k, none⟩ (.bool true)).setCell ⟨w.heap.size, 67 + k, none⟩ (.int .i64 b.now)).heap[w.heap.size]? = some (.cells ((cs.setIfInBounds (2 + k) (.bool true)).setIfInBounds (67 + k) (.int .i64 b.now)) 32 (0, 0))) :=
    Lib.hid (heap_setCell_same _ _ _ _ _ _ (heap_setCell_same _ _ _ _ _ _ HN.out))
  have HY : Hid (((w1.setCell ⟨w.heap.size, 2 + k, none⟩ (.bool true)).setCell ⟨w.heap.size, 67 + k, none⟩ (.int .i64 b.now)).heap[w.heap.size + 1]? = some (.cells zb 32 (0, 0))) :=
    Lib.hid (by rw [heap_setCell_other _ _ _ _ (by simp), heap_setCell_other _ _ _ _ (by simp)]; exact hM.out)
  have HBE : Hid (Below w.heap.size w ((w1.setCell ⟨w.heap.size, 2 + k, none⟩ (.bool true)).setCell ⟨w.heap.size, 67 + k, none⟩ (.int .i64 b.now))) :=
    Lib.hid (((HW.out.trans (HB.out.mono HW.out.size)).setCell (p := ⟨w.heap.size, 2 + k, none⟩) (Nat.le_refl _) _).setCell (p := ⟨w.heap.size, 67 + k, none⟩) (Nat.le_refl _) _)
  have HRB := Lib.hid (HK.out.enter k hk64 HBE.out)
  have HK2 := Lib.hid (fun V hV => HK.out.enter k hk64 (w' := V) hV)
  obtain ⟨cs2, hcs2⟩ : ∃ c, c = (cs.setIfInBounds (2 + k) (.bool true)).setIfInBounds (67 + k) (.int .i64 b.now) := ⟨_, rfl⟩
  rw [← hcs2] at HX HRB HK2
  clear hcs2
  go_wp2_with (first
    | (refine wpList_load_row rfl 32 (.tmp 2) rfl w.heap.size rfl 32 cs2 (0, 0) _ HX.out Try.underlying32 rfl (by rw [HRB.out.size]; exact info32) ?_)
    | (refine wpList_store_row rfl 32 (.tmp 4) (.tmp 20) rfl (w.heap.size + 1) cs2 rfl rfl 32 zb HY.out (by rw [HRB.out.size]; exact info32) (by rw [HRB.out.size]; exact zb_size) HRB.out.one ?_; obtain ⟨WF, hWF⟩ : ∃ WF, WF = ((w1.setCell ⟨w.heap.size, 2 + k, none⟩ (.bool true)).setCell ⟨w.heap.size, 67 + k, none⟩ (.int .i64 b.now)).setRow (w.heap.size + 1) cs2 := ⟨_, rfl⟩; rw [← hWF]; have HWF := Lib.hid hWF; clear hWF)
    | fail)
  have hbF : Below w.heap.size w WF := by rw [HWF.out]; exact below_setRow HBE.out (by omega) _
  exact book_back rfl rfl rfl (by rw [HWF.out]; exact setRow_heap _ _ _ _ _ _ HY.out) HRB.out.size ⟨cs2, rfl, HK2.out WF hbF, hbF⟩ rfl
end Go.Proofs.Ytlffigkjhhcohaa
