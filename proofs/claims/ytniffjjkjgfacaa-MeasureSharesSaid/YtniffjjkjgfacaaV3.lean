/- Numbers sorted; the least, the middle and the greatest. -/
import Derived.Test.YtniffjjkjgfacaaV2
import Derived.Test.YtniffjjkjgfacaaT0
import Derived.Sort.OwnSorted
namespace Go.Proofs.Ytniffjjkjgfacaa
set_option linter.unusedSimpArgs false
open Go.RowKit Go.Maps Go.Shelf Go.Sort
set_option linter.unusedVariables false
theorem ei_all (xs : List Int) : EI.all xs = xs.map encZ := by
  induction xs with
  | nil => rfl
  | cons x xs ih => rw [RE.all_cons, ih]; rfl
def srt (xs : List Int) : List Int := xs.mergeSort fun x y => decide (x ≤ y)
theorem collect_any {gf : Nat} {lb : Array Value} {xs : List Int} {F : Nat → Prop} {R : World → Prop} (eg : ∀ args w, (callFunc gf args).run Try.prog w = .ok (.enter gf args) w) (hseq : SeqR Try.prog gf lb enc1 xs F R) (hn : xs.length ≤ 1000) (w : World) (hR : R w) (hRb : ∀ W W', R W → Below W.heap.size W W' → R W') (hF : ∀ g, F g → g < w.heap.size) :
    Calls Try.prog 29 #[.func (.func gf) #[] lb] w fun e w' => ∃ A' c', e = .returned (.slice A' xs.length c') ∧ EI.Row w' w.heap.size A' xs c' ∧ Below w.heap.size w w' := by
  have C := Lib.hid (append_any eg hseq hn w hR hRb hF)
  clear hR hRb hF hseq eg
  go_enter Try.func29, Try.ntmps29
  go_wp2_with (first
    | (go_at_call 40; ((with_reducible refine C.out.mono ?_); rintro e w1 ⟨A', c', rfl, r1, b1⟩; have R1 := Lib.hid r1; have B1 := Lib.hid b1; clear r1 b1))
    | fail)
  go_ret
  exact ⟨_, _, rfl, R1.out, B1.out⟩
theorem sorted_any {gf : Nat} {lb : Array Value} {xs : List Int} {F : Nat → Prop} {R : World → Prop} (eg : ∀ args w, (callFunc gf args).run Try.prog w = .ok (.enter gf args) w) (hseq : SeqR Try.prog gf lb enc1 xs F R) (hn : xs.length ≤ 1000) (h0 : 0 < xs.length) (w : World) (hR : R w) (hRb : ∀ W W', R W → Below W.heap.size W W' → R W') (hF : ∀ g, F g → g < w.heap.size) :
    Calls Try.prog 18 #[.func (.func gf) #[] lb] w fun e w' => ∃ A' c', e = .returned (.slice A' xs.length c') ∧ EI.Rd w' A' (srt xs) ∧ Below w.heap.size w w' := by
  have C := Lib.hid (collect_any eg hseq hn w hR hRb hF)
  have H0 := Lib.hid h0
  have HN := Lib.hid hn
  clear hR hRb hF hseq eg h0 hn
  go_enter Try.func18, Try.ntmps18
  go_wp2_with (first
    | (go_at_call 29; ((with_reducible refine C.out.mono ?_); rintro e w1 ⟨A', c', rfl, r1, b1⟩; have R1 := Lib.hid r1; have B1 := Lib.hid b1; clear r1 b1))
    | fail)
  rcases R1.out with ⟨h, _⟩ | ⟨hc, hrow⟩
  · have := H0.out; rw [h] at this; simp at this
  rw [ei_all] at hrow
  replace hrow : w1.ownsRow w.heap.size 3 1 (.slice A' xs.length c') xs.length (xs.map encZ) := hrow
  rcases hrow.2 with ⟨_, hz⟩ | ⟨gb, cap, cur, hv, hbase, hgb, r1, r2, r3, r4⟩
  · have := H0.out; omega
  cases hv
  have hH : Holds encZ w1 gb 0 xs.toArray := holds_of_block_i hgb (by simpa using r4)
  have hgl : gb < w1.heap.size := (Array.getElem?_eq_some_iff.1 hgb).1
  have hsz : xs.length < 4611686018427387904 := by have := HN.out; omega
  have cS : Hid (Calls Try.prog 30 #[.slice (some ⟨gb, 0, none⟩) xs.length c'] w1 fun e w' => e = .returned (.tuple #[]) ∧ EI.Rd w' (some ⟨gb, 0, none⟩) (srt xs) ∧ Below w.heap.size w w') := Lib.hid ((AnyM.slices_Sort_int LsortA gb 0 c' xs w1 hH hgl hsz).mono fun e w' h => by
    obtain ⟨rfl, nn, os, rfl⟩ := h
    have h1 : (grow (putRow encZ (Sort.ahead w1 nn) gb 0 (xs.mergeSort fun x y => decide (x ≤ y)).toArray) os).ownsRow w.heap.size 3 1 (.slice (some ⟨gb, 0, none⟩) xs.length c') xs.length ((xs.mergeSort fun x y => decide (x ≤ y)).map encZ) := ownsRow_sorted_i (by simp) hbase hgb r1 r2 r3
    refine ⟨rfl, ?_, B1.out.grown (grownBy_sorted_i _) B1.out.size (fun j hj => by cases hj; exact hbase)⟩
    have h2 := Rd.of_own h1 (by omega)
    show Go.Proofs.Ytniffjjkjgfacaa.Rd _ _ _ (EI.all (srt xs))
    rw [ei_all]
    exact h2)
  clear hH hgl hsz r1 r2 r3 r4 hgb hbase hrow R1
  go_wp2_with (first
    | (go_at_call 30; ((with_reducible refine cS.out.mono ?_); rintro e w2 ⟨rfl, r2, b2⟩; have R2 := Lib.hid r2; have B2 := Lib.hid b2; clear r2 b2))
    | fail)
  go_ret
  exact ⟨_, _, rfl, R2.out, B2.out⟩
theorem values_at (A : Option Addr) (n c : Nat) (w : World) : Calls Try.prog 19 #[.slice A n c] w fun e w' => e = .returned (.func (.func 31) #[] #[.pointer (some ⟨w.heap.size, 0, none⟩)]) ∧ w' = w.alloc (.cells #[.slice A n c] 26) := by
  go_enter Try.func19, Try.ntmps19
  go_wp2
  go_ret
  exact ⟨rfl, rfl⟩
end Go.Proofs.Ytniffjjkjgfacaa
