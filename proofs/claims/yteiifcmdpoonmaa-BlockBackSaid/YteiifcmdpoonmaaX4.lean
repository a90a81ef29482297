/- The word functions: Texts' walk. -/
import Derived.Test.YteiifcmdpoonmaaW7
import Derived.Test.YteiifcmdpoonmaaL1
namespace Go.Proofs.Yteiifcmdpoonmaa
set_option linter.unusedSimpArgs false
open Go.RowKit
set_option linter.unusedVariables false

/-- The bytes of texts. -/
def cat (l : List ByteArray) : List UInt8 := l.flatMap fun s => (textF s).data.toList
theorem cat_snoc (l : List ByteArray) (s : ByteArray) : cat (l ++ [s]) = cat l ++ (textF s).data.toList := by simp [cat]
theorem cat_take (l : List ByteArray) (k : Nat) (h : k < l.length) : cat (l.take (k + 1)) = cat (l.take k) ++ (textF l[k]).data.toList := by
  rw [List.take_succ_eq_append_getElem h, cat_snoc]
theorem textF_size (s : ByteArray) : (textF s).size ≤ 5 + s.size := by
  unfold textF
  split
  · show 0 ≤ _; omega
  · have := numF_size (s.size : Int)
    rw [ByteArray.size_append]; omega
theorem cat_size (l : List ByteArray) (m : Nat) (h : ∀ s ∈ l, s.size ≤ m) : (cat l).length ≤ l.length * (5 + m) := by
  induction l with
  | nil => simp [cat]
  | cons x l ih =>
    have i := ih (fun s hs => h s (List.mem_cons_of_mem _ hs))
    have t := textF_size x
    have hx := h x (List.mem_cons_self ..)
    have e : (cat (x :: l)).length = (textF x).size + (cat l).length := by simp [cat]
    rw [e, List.length_cons, Nat.succ_mul]
    omega

set_option maxRecDepth 100000 in
set_option maxHeartbeats 2000000 in
theorem texts_any (A : Option Addr) (n c : Nat) (l : List ByteArray) (w : World) (hl : l.length = n) (hn : n ≤ 1000000) (hA : Rd w w.heap.size A (l.map Value.string)) (hz : ∀ s ∈ l, s.size ≤ 1000000) :
    Calls Try.prog 29 #[.slice A n c] w fun e w' => e = .returned (.string ⟨(cat l).toArray⟩) ∧ Below w.heap.size w w' := by
  have HL := Lib.hid hl
  have HZ := Lib.hid hz
  clear hl hz
  go_enter Try.func29, Try.ntmps29
  go_wp2
  go_loopw [8] (fun iv wr => ∃ k : Nat, k ≤ n ∧ iv = .int .i64 k ∧ Bd w.heap.size w.heap.size (cat (l.take k)) wr ∧ Below w.heap.size w wr) (fun i _ => n - (intOf i).toNat)
  case atStart => exact ⟨0, by omega, rfl, Bd.new w, (Below.refl _ _).alloc (Nat.le_refl _) _⟩
  case round =>
    obtain ⟨k, hk, rfl, hI, hb⟩ := hrel
    by_cases h8 : k = n
    · have he : l.take k = l := by rw [h8, ← HL.out]; exact List.take_length
      rw [he] at hI
      have hkn : ¬ (k : Int) < (n : Int) := by omega
      have HI := Lib.hid hI
      have hB := hb.size
      clear he hA hI
      go_wp2_with fail
      refine (string_any w.heap.size w.heap.size (cat l) _ HI.out hB).mono ?_
      rintro e W1 ⟨rfl, b1, _⟩
      go_wp2_with fail
      go_ret
      exact ⟨rfl, hb.trans b1⟩
    · have hkn : k < n := by omega
      have hk1 : (k : Int) < (n : Int) := by omega
      have hk0 : (0 : Int) ≤ (k : Int) := by omega
      have hkl : k < l.length := by rw [HL.out]; exact hkn
      have gk : (l.map Value.string)[k]? = some (.string l[k]) := by rw [List.getElem?_map, List.getElem?_eq_getElem hkl]; rfl
      obtain ⟨b, off, rfl, hlt, hc⟩ := hA.get gk
      have e1 := bel_later hb hc
      have ct := cat_take l k hkl
      have cs := cat_size (l.take k) 1000000 (fun s hs => HZ.out s (List.mem_of_mem_take hs))
      have xs := HZ.out l[k] (List.getElem_mem hkl)
      rw [List.length_take] at cs
      obtain ⟨x, hx⟩ : ∃ x, x = l[k] := ⟨_, rfl⟩
      rw [← hx] at e1 ct xs
      have ts := textF_size x
      have CT := Lib.hid ct
      have HI := Lib.hid hI
      clear hA hc gk hx ct hI
      have hm : min k l.length * (5 + 1000000) ≤ 1000000 * 1000005 := Nat.mul_le_mul (by omega) (Nat.le_refl _)
      have hle : (cat (l.take k)).length + (textF x).size ≤ 140737488355328 := by omega
      have HLE := Lib.hid hle
      obtain ⟨t, ht⟩ : ∃ t, t = textF x := ⟨_, rfl⟩
      have C := fun w => text_any x w
      rw [← ht] at C
      have CC := Lib.hid C
      have HT := Lib.hid ht
      clear C ht hle ts cs hm xs
      go_wp2_with fail
      refine (CC.out _).mono ?_
      rintro e w1 ⟨rfl, hb1⟩
      go_wp2_with fail
      refine (writeString_any w.heap.size w.heap.size (cat (l.take k)) t _ (HI.out.bel hb1) (by rw [HT.out]; exact HLE.out) (Nat.le_trans hb.size hb1.size)).mono ?_
      rintro e w2 ⟨rfl, hI2, hb2, _⟩
      have HI2 := Lib.hid hI2
      clear hI2
      go_wp2
      refine ⟨⟨k + 1, by omega, by simp, ?_, (bel_step hb hb1 (Nat.le_refl _)).trans hb2⟩, by simp [intOf]; omega⟩
      rw [CT.out, ← HT.out]; exact HI2.out
end Go.Proofs.Yteiifcmdpoonmaa
