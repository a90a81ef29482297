/- The document's checks of operations: words, sizes. -/
import Derived.Test.YtnchpfmpjpnciaaC1
import Derived.Test.YtnchpfmpjpnciaaB1
namespace Go.Proofs.Ytnchpfmpjpnciaa
set_option linter.unusedSimpArgs false
open Go.RowKit Go.Maps Go.Shelf
set_option linter.unusedVariables false
theorem kbs_ne {S L : Int} {n : Nat} (h : 1 ≤ n) : ¬ (⟨(kbs S L n).toArray⟩ : ByteArray).toList = [] := by
  rw [ByteArray.toList_eq]
  show ¬ (kbs S L n).toArray.toList = []
  rw [List.toList_toArray]
  intro e
  have := kbs_length S L n
  rw [e] at this
  simp at this
  omega
theorem keyB_ne (S L M : Int) : ¬ (keyB S L M).toList = [] := by
  have h := keyN_cast S M
  have h1 := cl_range M 16 (by omega)
  have h2 := bl_range S (cl M 16) h1.1
  exact kbs_ne (by omega)
theorem keyB_le (S L M : Int) (h : 1 ≤ M ∧ M ≤ 16) : ((keyB S L M).size : Int) ≤ M := by
  have h0 := keyN_cast S M
  have e : cl M 16 = M := cl_3 h.1 h.2
  have h2 := bl_range S M h.1
  rw [e] at h0
  have e2 : (keyB S L M).size = keyN S M := by
    show (kbs _ _ _).toArray.size = _
    rw [List.size_toArray, kbs_length]
  omega
theorem less_push (l : List UInt8) (c : UInt8) : Op.bytesLess (l ++ [c]) l = false ∧ ((l ++ [c]) == l) = false := by
  induction l with
  | nil => exact ⟨rfl, rfl⟩
  | cons a l ih =>
    refine ⟨?_, ?_⟩
    · show (decide (a < a) || (a == a && Op.bytesLess (l ++ [c]) l)) = false
      rw [ih.1]; simp
    · have h := ih.2
      show ((a :: (l ++ [c])) == (a :: l)) = false
      simp
theorem push_facts (k : ByteArray) (c : UInt8) : Op.bytesLess (k ++ ⟨#[c]⟩ : ByteArray).toList k.toList = false ∧ ((k ++ ⟨#[c]⟩ : ByteArray).toList == k.toList) = false ∧ ¬ (k ++ ⟨#[c]⟩ : ByteArray).toList = [] ∧ (k ++ ⟨#[c]⟩ : ByteArray).size = k.size + 1 := by
  have e : (k ++ ⟨#[c]⟩ : ByteArray).toList = k.toList ++ [c] := by
    rw [ByteArray.toList_eq, ByteArray.toList_eq]
    simp
  rw [e]
  refine ⟨(less_push _ _).1, (less_push _ _).2, by simp, ?_⟩
  rw [ByteArray.size_append]; rfl
theorem msgA_cases (n S1 : Int) :
    (∃ y : ByteArray, msgA n S1 = mc 4 y (y ++ ⟨#[122]⟩) ⟨#[]⟩ 0 ∧ y.size ≤ 2) ∨ (∃ y : ByteArray, msgA n S1 = mc 2 y ⟨#[]⟩ ⟨#[]⟩ 0 ∧ ¬ y.toList = [] ∧ y.size ≤ 2) ∨
    (∃ (y : ByteArray) (d : Int), msgA n S1 = mc 3 y ⟨#[]⟩ ⟨#[]⟩ d ∧ ¬ y.toList = [] ∧ y.size ≤ 2) ∨ (∃ y v : ByteArray, msgA n S1 = mc 1 y ⟨#[]⟩ v 0 ∧ ¬ y.toList = [] ∧ y.size ≤ 2 ∧ v.size ≤ 2) := by
  have k1 : (keyB S1 4 1).size ≤ 2 := by have := keyB_le S1 4 1 (by omega); omega
  have k2 : (keyB S1 4 2).size ≤ 2 := by have := keyB_le S1 4 2 (by omega); omega
  have n2 := keyB_ne S1 4 2
  unfold msgA
  by_cases h7 : n = 7
  · rw [if_pos h7]; exact .inl ⟨_, rfl, k1⟩
  · rw [if_neg h7]
    by_cases h4 : n = 4
    · rw [if_pos h4]; exact .inr (.inl ⟨_, rfl, n2, k2⟩)
    · rw [if_neg h4]
      by_cases h5 : n > 4
      · rw [if_pos h5]; exact .inr (.inr (.inl ⟨_, _, rfl, n2, k2⟩))
      · rw [if_neg h5]; exact .inr (.inr (.inr ⟨_, _, rfl, n2, k2, xs_size _⟩))
section
variable (c2 c3 c4 c5 c6 c7 c8 : Int) (w : World)
theorem msg_ok (S : Int) : Calls Try.prog 40 #[.agg (mval S), .agg #[.int .i64 4, .int .i64 16, .int .i64 c2, .int .i64 c3, .int .i64 c4, .int .i64 c5, .int .i64 c6, .int .i64 c7, .int .i64 c8]] w fun e w' => e = .returned (.int .i64 0) ∧ Below w.heap.size w w' := by
  unfold mval
  rcases msgA_cases (bl S 8) (bs S 8) with ⟨y, e, h⟩ | ⟨y, e, h1, h⟩ | ⟨y, d, e, h1, h⟩ | ⟨y, v, e, h1, h, hv⟩
  · have pf := push_facts y 122
    rw [e]
    unfold mc
    have q := check_clear c2 c3 c4 c5 c6 c7 c8 w y (y ++ ⟨#[122]⟩) pf.2.2.1 h (by rw [pf.2.2.2]; omega) pf.1 pf.2.1
    exact q
  · rw [e]; unfold mc; have q := check_del c2 c3 c4 c5 c6 c7 c8 w y h1 h; exact q
  · rw [e]; unfold mc; have q := check_add c2 c3 c4 c5 c6 c7 c8 w y d h1 h; exact q
  · rw [e]; unfold mc; have q := check_put c2 c3 c4 c5 c6 c7 c8 w y v h1 h hv; exact q
set_option maxHeartbeats 2000000 in
set_option maxRecDepth 4000 in
theorem zero_get (B : Option Addr) (c : Nat) (y : ByteArray) : Calls Try.prog 39 #[.agg #[.int .u8 1, .string y, .string ⟨#[]⟩, .int .i64 0, .slice B 0 c]] w fun e w' => e = .returned (.bool true) ∧ Below w.heap.size w w' := by
  have hb : Below w.heap.size w (w.alloc (.cells #[.int .u8 1, .string y, .string ⟨#[]⟩, .int .i64 0, .slice B 0 c] 42)) := alb _ _
  have HB := Lib.hid hb
  clear hb
  go_enter Try.func39, Try.ntmps39
  go_wp2
  go_ret
  exact ⟨rfl, HB.out⟩
set_option maxHeartbeats 2000000 in
set_option maxRecDepth 4000 in
theorem zero_send (B : Option Addr) (l c : Nat) : Calls Try.prog 39 #[.agg #[.int .u8 2, .string ⟨#[]⟩, .string ⟨#[]⟩, .int .i64 0, .slice B l c]] w fun e w' => e = .returned (.bool true) ∧ Below w.heap.size w w' := by
  have hb : Below w.heap.size w (w.alloc (.cells #[.int .u8 2, .string ⟨#[]⟩, .string ⟨#[]⟩, .int .i64 0, .slice B l c] 42)) := alb _ _
  have HB := Lib.hid hb
  clear hb
  go_enter Try.func39, Try.ntmps39
  go_wp2
  go_ret
  exact ⟨rfl, HB.out⟩
set_option maxHeartbeats 2000000 in
set_option maxRecDepth 4000 in
theorem zero_look (B : Option Addr) (c : Nat) (y : ByteArray) (n : Int) : Calls Try.prog 39 #[.agg #[.int .u8 3, .string y, .string ⟨#[]⟩, .int .i64 n, .slice B 0 c]] w fun e w' => e = .returned (.bool true) ∧ Below w.heap.size w w' := by
  have hb : Below w.heap.size w (w.alloc (.cells #[.int .u8 3, .string y, .string ⟨#[]⟩, .int .i64 n, .slice B 0 c] 42)) := alb _ _
  have HB := Lib.hid hb
  clear hb
  go_enter Try.func39, Try.ntmps39
  go_wp2
  go_ret
  exact ⟨rfl, HB.out⟩
set_option maxHeartbeats 2000000 in
set_option maxRecDepth 4000 in
theorem zero_open (B : Option Addr) (c : Nat) : Calls Try.prog 39 #[.agg #[.int .u8 4, .string ⟨#[]⟩, .string ⟨#[]⟩, .int .i64 0, .slice B 0 c]] w fun e w' => e = .returned (.bool true) ∧ Below w.heap.size w w' := by
  have hb : Below w.heap.size w (w.alloc (.cells #[.int .u8 4, .string ⟨#[]⟩, .string ⟨#[]⟩, .int .i64 0, .slice B 0 c] 42)) := alb _ _
  have HB := Lib.hid hb
  clear hb
  go_enter Try.func39, Try.ntmps39
  go_wp2
  go_ret
  exact ⟨rfl, HB.out⟩
set_option maxHeartbeats 2000000 in
set_option maxRecDepth 4000 in
theorem zero_next (B : Option Addr) (c : Nat) : Calls Try.prog 39 #[.agg #[.int .u8 5, .string ⟨#[]⟩, .string ⟨#[]⟩, .int .i64 1, .slice B 0 c]] w fun e w' => e = .returned (.bool true) ∧ Below w.heap.size w w' := by
  have hb : Below w.heap.size w (w.alloc (.cells #[.int .u8 5, .string ⟨#[]⟩, .string ⟨#[]⟩, .int .i64 1, .slice B 0 c] 42)) := alb _ _
  have HB := Lib.hid hb
  clear hb
  go_enter Try.func39, Try.ntmps39
  go_wp2
  go_ret
  exact ⟨rfl, HB.out⟩
set_option maxHeartbeats 2000000 in
set_option maxRecDepth 4000 in
theorem cfg_ok (h2 : 4 ≤ c2 ∧ c2 ≤ 64) (h3 : 0 ≤ c3 ∧ c3 ≤ 1000) (h4 : 4 ≤ c4 ∧ c4 ≤ 256) (h5 : 2 ≤ c5 ∧ c5 ≤ 4) (h6 : 2 ≤ c6 ∧ c6 ≤ 4096) (h7 : 0 ≤ c7 ∧ c7 ≤ 1000) (h8 : 1 ≤ c8 ∧ c8 ≤ 1024) : Calls Try.prog 23 #[.agg #[.int .i64 4, .int .i64 16, .int .i64 c2, .int .i64 c3, .int .i64 c4, .int .i64 c5, .int .i64 c6, .int .i64 c7, .int .i64 c8]] w fun e w' => e = .returned (.int .i64 0) ∧ Below w.heap.size w w' := by
  have hb : Below w.heap.size w (w.alloc (.cells #[.int .i64 4, .int .i64 16, .int .i64 c2, .int .i64 c3, .int .i64 c4, .int .i64 c5, .int .i64 c6, .int .i64 c7, .int .i64 c8] 49)) := alb _ _
  have HB := Lib.hid hb
  have a0 : ¬ c2 < 4 := by omega
  have a1 : ¬ 64 < c2 := by omega
  have a2 : ¬ c3 < 0 := by omega
  have a3 : ¬ 1048576 < c3 := by omega
  have a4 : ¬ c4 < 4 := by omega
  have a5 : ¬ 256 < c4 := by omega
  have a6 : ¬ c5 < 2 := by omega
  have a7 : ¬ c4 < c5 := by omega
  have a8 : ¬ c6 < 2 := by omega
  have a9 : ¬ 4096 < c6 := by omega
  have b0 : ¬ c7 < 0 := by omega
  have b1 : ¬ 1000 < c7 := by omega
  have b2 : ¬ c8 < 1 := by omega
  have b3 : ¬ 1024 < c8 := by omega
  clear hb h2 h3 h4 h5 h6 h7 h8
  go_enter Try.func23, Try.ntmps23
  go_wp2
  go_ret
  exact ⟨rfl, HB.out⟩
end
end Go.Proofs.Ytnchpfmpjpnciaa
