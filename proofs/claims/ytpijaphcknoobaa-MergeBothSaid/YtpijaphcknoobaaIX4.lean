/- List, and Of: rows from slices, and slices from rows. -/
import Derived.Test.YtpijaphcknoobaaIX3
namespace Go.Proofs.Ytpijaphcknoobaa.I
set_option linter.unusedSimpArgs false
open Go.RowKit Go.Shelf
set_option linter.unusedVariables false
attribute [local go_sem] Oper.semAt_some

abbrev RdT (w : World) (A : Option Addr) (xs : List TT) : Prop := Rd w w.heap.size A (cls xs)
/-- A list in memory is handed back. -/
def RowPost (w : World) (xs : List TT) (e : Ending) (W : World) : Prop := ∃ A c, e = .returned (.slice A xs.length c) ∧ RdT W A xs ∧ Below w.heap.size w W
set_option maxRecDepth 100000 in
set_option maxHeartbeats 4000000 in
theorem list_any {g : FuncId} (eg : ∀ args w, (callFunc g args).run Try.prog w = .ok (.enter g args) w) {lb : Array Value} {xs : List TT} {w0 w : World} (hseq : SeqF Try.prog g lb enc xs w0) (hb0 : Below w0.heap.size w0 w) (hn : xs.length ≤ 100000) :
    Calls Try.prog 28 #[.func (.func g) #[] lb] w (RowPost w xs) := by
  have hV : Below w.heap.size w (w.alloc (.cells #[.slice none 0 0] 54)) := bel_alloc (Below.refl _ _) _
  have EA := Lib.hid (callsIn_wide.1 (each_in (h := 48) (cap := #[.pointer (some ⟨w.heap.size, 0, none⟩)]) (enters_of Try.func48 (by kernel_rfl) rfl) eg hseq (w := w.alloc (.cells #[.slice none 0 0] 54)) (hb0.trans (hV.mono hb0.size)) (liJ_loc xs w.heap.size _) (Jx := fun _ _ _ => False) (fun _ _ _ _ h _ => h)
    (D := fun g => g = w.heap.size ∨ (Value.slice none 0 0).ownBlock = some g) (fun g hg => by rcases hg with e | e; rw [e]; exact hb0.size; simp [Value.ownBlock] at e) (fun g hg => by rcases hg with e | e; rw [e]; simp; simp [Value.ownBlock] at e) (fun k x D W hx hJ hin => list1_any xs hn w.heap.size k x D W hx hJ hin)
    ⟨_, rfl, Boxed.new w 54 (.slice none 0 0), World.ownsRow_nil _ _ _ _, by simp [Value.ownBlock]⟩))
  clear hseq hb0
  have EB : Hid (Calls Try.prog 47 #[.func (.func g) #[] lb, .func (.func 48) #[] #[.pointer (some ⟨w.heap.size, 0, none⟩)]] (w.alloc (.cells #[.slice none 0 0] 54)) fun e w1 => e = .returned (.bool true) ∧ Below w.heap.size w w1 ∧ ∃ v, Boxed w1 w.heap.size 54 v ∧ w1.ownsRow w.heap.size 3 1 v xs.length (cls (xs.take xs.length))) := Lib.hid (EA.out.mono (fun e w1 h => by
    obtain ⟨D', hg, hc, (⟨rfl, v, _, hv, hr, hne⟩ | ⟨_, _, _, h⟩)⟩ := h
    · exact ⟨rfl, hV.trans (hc.below (fun g hg => by rcases hg with e | e; rw [e]; exact Nat.le_refl _; simp [Value.ownBlock] at e) (by simp)), v, hv, hr⟩
    · exact h.elim))
  clear EA
  go_enter Try.func28, Try.ntmps28
  go_wp2_with (go_at_call 47; with_reducible refine EB.out.mono ?_; clear EB; rintro e w1 ⟨rfl, hb, v, hv, hr⟩; have HB := Lib.hid hb; have HR := Lib.hid hr; have cv := hv.cell; clear hb hv hr)
  obtain ⟨hl, hr⟩ := HR.out
  have hA : ∃ A c, v = .slice A xs.length c := by
    rcases hr with ⟨rfl, h0⟩ | ⟨g, cap, cur, rfl, _⟩
    · exact ⟨none, 0, by rw [h0]⟩
    · exact ⟨_, _, rfl⟩
  obtain ⟨A, c, rfl⟩ := hA
  have hR := Rd.of_own HR.out (by decide)
  rw [List.take_length] at hR
  exact bodyPost_ret (v := .slice A xs.length c) (by simp [results, Try.results28, go_sem]) rfl ⟨A, c, rfl, hR, HB.out⟩
theorem cls_get {xs : List TT} {k : Nat} {x : TT} (h : xs[k]? = some x) : (cls xs)[k]? = some (.int .i64 x) := by
  induction xs generalizing k with
  | nil => simp at h
  | cons y ys ih =>
    cases k with
    | zero => simp at h; subst h; simp [cls]
    | succ k =>
      have := ih (k := k) (by simpa using h)
      have e : ∀ j, (cls (y :: ys))[j + 1]? = (cls ys)[j]? := fun j => by simp [cls]
      rw [e]; exact this
/-- A thing of a list in memory. -/
theorem rdt_get {w : World} {A : Option Addr} {xs : List TT} (h : RdT w A xs) {k : Nat} {x : TT} (hk : xs[k]? = some x) : ∃ b off, A = some ⟨b, off, none⟩ ∧ b < w.heap.size ∧ w.cell? ⟨b, off + k, none⟩ = some (.int .i64 x) := by
  obtain ⟨b, off, rfl, hlt, c0⟩ := Rd.get h (cls_get hk)
  exact ⟨b, off, rfl, hlt, c0⟩
end Go.Proofs.Ytpijaphcknoobaa.I
