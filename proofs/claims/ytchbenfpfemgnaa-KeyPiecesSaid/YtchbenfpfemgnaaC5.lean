/- The law KeyPieces: rows that are the same; how many pieces have a key. -/
import Derived.Test.YtchbenfpfemgnaaC4
namespace Go.Proofs.Ytchbenfpfemgnaa
set_option linter.unusedSimpArgs false
open Go.RowKit
set_option linter.unusedVariables false

set_option maxRecDepth 100000 in
set_option maxHeartbeats 4000000 in
theorem rpieces_no (f t : ByteArray) (E : Option Addr) (n c : Nat) (ends : List ByteArray) (w : World) (h : sb f t = false) :
    Calls Try.prog 28 #[.agg #[.string f, .string t], .slice E n c] w (GotPieces (pcs f t ends) w) := by
  have e : Hid (pcs f t ends = []) := Lib.hid (by unfold pcs; rw [h]; rfl)
  have C := fun w => rright_at f t w
  rw [h] at C
  have CC := Lib.hid C
  clear C h
  go_enter Try.func28, Try.ntmps28
  go_wp2_with fail
  refine (CC.out _).mono ?_
  rintro e w1 ⟨rfl, rfl⟩
  go_wp2
  go_ret
  exact ⟨some ⟨w.heap.size + 1, 0, none⟩, 0, by rw [e.out]; simp, by rw [e.out]; exact Rd.nil, by go_grown⟩

set_option maxRecDepth 100000 in
set_option maxHeartbeats 2000000 in
theorem same_yes (A B : Option Addr) (n c d : Nat) (l : List (ByteArray × ByteArray)) (w : World) (hl : l.length = n) (hn : n ≤ 2000000) (hA : Rd w w.heap.size A (flat l)) (hB : Rd w w.heap.size B (flat l)) :
    Calls Try.prog 27 #[.slice A n c, .slice B n d] w fun e w' => e = .returned (.bool true) ∧ Below w.heap.size w w' := by
  have HL := Lib.hid hl
  clear hl
  go_enter Try.func27, Try.ntmps27
  go_wp2
  go_loopw [5] (fun iv wr => ∃ k : Nat, k ≤ n ∧ iv = .int .i64 k ∧ Below w.heap.size w wr) (fun i _ => n - (intOf i).toNat)
  case atStart => exact ⟨0, by omega, rfl, Below.refl _ _⟩
  case round =>
    obtain ⟨k, hk, rfl, hb⟩ := hrel
    by_cases h8 : k = n
    · subst h8
      clear hA hB
      go_wp2
      go_ret
      exact ⟨rfl, hb⟩
    · have hkn : k < n := by omega
      have hk1 : (k : Int) < (n : Int) := by omega
      have hk0 : (0 : Int) ≤ (k : Int) := by omega
      have hkl : k < l.length := by rw [HL.out]; exact hkn
      obtain ⟨g0, g1⟩ := flat_get l k hkl
      rcases hA with hA | ⟨b, off, rfl, hlt, hc⟩
      · rw [hA] at g0; simp at g0
      rcases hB with hB | ⟨b2, off2, rfl, hlt2, hc2⟩
      · rw [hB] at g0; simp at g0
      have e0 := bel_later hb (hc _ _ g0)
      have e1 := bel_later hb (hc _ _ g1)
      have e2 := bel_later hb (hc2 _ _ g0)
      have e3 := bel_later hb (hc2 _ _ g1)
      rw [← Nat.add_assoc] at e1 e3
      obtain ⟨⟨x, y⟩, hx⟩ : ∃ x, x = l[k] := ⟨_, rfl⟩
      rw [← hx] at e0 e1 e2 e3
      simp only at e0 e1 e2 e3
      clear hc hc2 g0 g1 hx
      go_wp2
      go_quiet (fail)
      go_wp2
      exact ⟨⟨k + 1, by omega, by simp, bel_drewN hb nq⟩, by simp [intOf]; omega⟩

/-- How many of the pieces have a key. -/
def cnt (l : List (ByteArray × ByteArray)) (s : ByteArray) : Nat := (l.filter fun p => has p.1 p.2 s).length
theorem cnt_snoc (l : List (ByteArray × ByteArray)) (p : ByteArray × ByteArray) (s : ByteArray) : cnt (l ++ [p]) s = cnt l s + if has p.1 p.2 s then 1 else 0 := by
  unfold cnt
  rw [List.filter_append, List.length_append]
  cases h : has p.1 p.2 s <;> simp [List.filter_cons, h]
theorem has_split (f e t s : ByteArray) (h1 : lt f e = true) (h2 : sb e t = true) : (if has f e s then 1 else 0) + (if has e t s then 1 else 0) = if has f t s then 1 else (0 : Nat) := by
  have he : emp e = false := by
    unfold emp
    cases q : e.toList.isEmpty
    · rfl
    · unfold lt at h1
      have : e.toList = [] := by simpa using q
      rw [this, bl_nil] at h1; cases h1
  unfold has sb at *
  rw [he]
  simp only [Bool.false_or]
  cases a : lt s f <;> cases b : lt s e <;> cases c : emp t <;> cases d : lt s t <;> simp_all
  all_goals first
    | done
    | (unfold lt at *
       have x1 := bl_trans s.toList f.toList e.toList
       have x2 := bl_trans s.toList e.toList t.toList
       simp_all)
theorem cnt_pss (f t s : ByteArray) (l : List ByteArray) (h : sb f t = true) : cnt (pss f t l).1 s + (if has (pss f t l).2 t s then 1 else 0) = if has f t s then 1 else 0 := by
  suffices ∀ (l : List ByteArray) (x : List (ByteArray × ByteArray) × ByteArray), cnt (l.foldl (pst t) x).1 s + (if has (l.foldl (pst t) x).2 t s then 1 else 0) = cnt x.1 s + if has x.2 t s then 1 else 0 by
    have := this l ([], f)
    unfold pss
    rw [this]; simp [cnt]
  intro l
  induction l with
  | nil => intro x; rfl
  | cons e l ih =>
    intro x
    rw [List.foldl_cons, ih]
    unfold pst
    split
    · rename_i q
      have := has_split x.2 e t s q.1 q.2
      rw [cnt_snoc]
      simp only at this ⊢
      omega
    · rfl
theorem cnt_pcs (f t s : ByteArray) (l : List ByteArray) (h : sb f t = true) : cnt (pcs f t l) s = if has f t s then 1 else 0 := by
  unfold pcs
  rw [if_pos h, cnt_snoc]
  exact cnt_pss f t s l h
end Go.Proofs.Ytchbenfpfemgnaa
