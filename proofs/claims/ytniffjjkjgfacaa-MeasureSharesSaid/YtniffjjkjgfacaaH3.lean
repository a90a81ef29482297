/- What moves cost, the document's side. -/
import Derived.Test.YtniffjjkjgfacaaH2
namespace Go.Proofs.Ytniffjjkjgfacaa
set_option linter.unusedSimpArgs false
open Go.RowKit Go.Maps
set_option linter.unusedVariables false
def isA (w : Int) : Bool := decide (8 ≤ w) && decide (w ≤ 14)
def isB (w : Int) : Bool := w == 2 || w == 15
def isC (w : Int) : Bool := w == 4 || w == 7
def cnt (p : Int → Bool) (xs : List MV) : Nat := (xs.filter fun x => p x.w).length
theorem cnt_next {p : Int → Bool} {xs : List MV} {k : Nat} {x : MV} (h : xs[k]? = some x) : cnt p (xs.take (k + 1)) = cnt p (xs.take k) + (if p x.w = true then 1 else 0) := by
  rw [List.take_add_one, h]
  by_cases e : p x.w = true <;> simp [cnt, e]
theorem cnt_take (p : Int → Bool) (xs : List MV) (k : Nat) : cnt p (xs.take k) ≤ k := Nat.le_trans (List.length_filter_le _ _) (by simp [List.length_take]; omega)
theorem num_cons (c : Int) (x : MV) (xs : List MV) : num c (x :: xs) = (if x.w = c then 1 else 0) + num c xs := by
  by_cases e : x.w = c <;> simp [num, did, e] <;> omega
theorem cnt_cons (p : Int → Bool) (x : MV) (xs : List MV) : cnt p (x :: xs) = (if p x.w = true then 1 else 0) + cnt p xs := by
  by_cases e : p x.w = true <;> simp [cnt, e] <;> omega
theorem numA (xs : List MV) : numS WA xs = cnt isA xs := by
  induction xs with
  | nil => rfl
  | cons x xs ih =>
    rw [cnt_cons, ← ih]
    simp only [numS, WA, List.map_cons, List.map_nil, List.sum_cons, List.sum_nil, num_cons]
    by_cases h : 8 ≤ x.w ∧ x.w ≤ 14
    · have hb : isA x.w = true := by simp [isA, h]
      rw [if_pos hb]
      have : x.w = 8 ∨ x.w = 9 ∨ x.w = 10 ∨ x.w = 11 ∨ x.w = 12 ∨ x.w = 13 ∨ x.w = 14 := by omega
      rcases this with e | e | e | e | e | e | e <;> (rw [e]; simp; omega)
    · have hb : ¬ isA x.w = true := by simp [isA]; omega
      rw [if_neg hb, if_neg (by omega), if_neg (by omega), if_neg (by omega), if_neg (by omega), if_neg (by omega), if_neg (by omega), if_neg (by omega)]
      omega
theorem numB (xs : List MV) : numS WB xs = cnt isB xs := by
  induction xs with
  | nil => rfl
  | cons x xs ih =>
    rw [cnt_cons, ← ih]
    simp only [numS, WB, List.map_cons, List.map_nil, List.sum_cons, List.sum_nil, num_cons, isB]
    by_cases h : x.w = 2
    · simp [h]; omega
    · by_cases h' : x.w = 15 <;> simp [h, h'] <;> omega
theorem numC (xs : List MV) : numS WC xs = cnt isC xs := by
  induction xs with
  | nil => rfl
  | cons x xs ih =>
    rw [cnt_cons, ← ih]
    simp only [numS, WC, List.map_cons, List.map_nil, List.sum_cons, List.sum_nil, num_cons, isC]
    by_cases h : x.w = 4
    · simp [h]; omega
    · by_cases h' : x.w = 7 <;> simp [h, h'] <;> omega
set_option maxHeartbeats 4000000 in
theorem rcost_any (A : Option Addr) (n cap : Nat) (xs : List MV) (w : World) (hl : xs.length = n) (hn : n ≤ 1000) (hA : EM.Rd w A xs) :
    Calls Try.prog 12 #[.slice A n cap] w fun r w' => r = .returned (.tuple #[.int .i64 (cnt isA xs), .int .i64 (cnt isB xs), .int .i64 (cnt isC xs)]) ∧ w = w' := by
  have HL := Lib.hid hl
  have HA := Lib.hid hA
  clear hl hA
  go_enter Try.func12, Try.ntmps12
  go_wp2
  go_loopw [5, 6, 7, 8] (fun av bv cv iv wr => ∃ (k a b c : Nat), k ≤ n ∧ iv = .int .i64 k ∧ av = .int .i64 a ∧ bv = .int .i64 b ∧ cv = .int .i64 c ∧ cnt isA (xs.take k) = a ∧ cnt isB (xs.take k) = b ∧ cnt isC (xs.take k) = c ∧ w = wr) (fun _ _ _ i _ => n - (intOf i).toNat)
  case atStart => exact ⟨0, 0, 0, 0, by omega, rfl, rfl, rfl, rfl, rfl, rfl, rfl, rfl⟩
  case round =>
    obtain ⟨k, a, b, c, hk, rfl, rfl, rfl, rfl, ha, hb, hc, rfl⟩ := hrel
    have ja := cnt_take isA xs k
    have jb := cnt_take isB xs k
    have jc := cnt_take isC xs k
    rw [ha] at ja; rw [hb] at jb; rw [hc] at jc
    have H1 := Lib.hid ha
    have H2 := Lib.hid hb
    have H3 := Lib.hid hc
    clear ha hb hc
    by_cases h8 : k < n
    · have hk1 : (k : Int) < (n : Int) := by omega
      have hk0 : (0 : Int) ≤ (k : Int) := by omega
      obtain ⟨x, hx⟩ : ∃ x, xs[k]? = some x := ⟨_, List.getElem?_eq_getElem (by rw [HL.out]; omega)⟩
      obtain ⟨bb, off, rfl, hlt, g0, g1, g2, g3, g4⟩ := em_at HA.out hx
      have n1 := cnt_next (p := isA) hx
      have n2 := cnt_next (p := isB) hx
      have n3 := cnt_next (p := isC) hx
      rw [H1.out] at n1; rw [H2.out] at n2; rw [H3.out] at n3
      obtain ⟨s, v, nn, vv, ee⟩ := x
      simp only at g1 n1 n2 n3
      have N1 := Lib.hid n1
      have N2 := Lib.hid n2
      have N3 := Lib.hid n3
      clear n1 n2 n3 hx hlt g0 g2 g3 g4
      go_wp2
      all_goals first
        | (exfalso; (try simp only [beq_iff_eq, beq_eq_false_iff_ne, ne_eq] at *); omega)
        | exact ⟨⟨k + 1, a, b, c, by omega, by simp, rfl, rfl, rfl, by rw [N1.out, if_neg (by (try simp only [beq_iff_eq, beq_eq_false_iff_ne, ne_eq] at *); simp [isA]; omega), Nat.add_zero], by rw [N2.out, if_neg (by (try simp only [beq_iff_eq, beq_eq_false_iff_ne, ne_eq] at *); simp [isB]; omega), Nat.add_zero], by rw [N3.out, if_neg (by (try simp only [beq_iff_eq, beq_eq_false_iff_ne, ne_eq] at *); simp [isC]; omega), Nat.add_zero], by first | trivial | rfl⟩, by simp [intOf]; omega⟩
        | exact ⟨⟨k + 1, a + 1, b, c, by omega, by simp, by simp, rfl, rfl, by rw [N1.out, if_pos (by (try simp only [beq_iff_eq, beq_eq_false_iff_ne, ne_eq] at *); simp [isA]; omega)], by rw [N2.out, if_neg (by (try simp only [beq_iff_eq, beq_eq_false_iff_ne, ne_eq] at *); simp [isB]; omega), Nat.add_zero], by rw [N3.out, if_neg (by (try simp only [beq_iff_eq, beq_eq_false_iff_ne, ne_eq] at *); simp [isC]; omega), Nat.add_zero], by first | trivial | rfl⟩, by simp [intOf]; omega⟩
        | exact ⟨⟨k + 1, a, b + 1, c, by omega, by simp, rfl, by simp, rfl, by rw [N1.out, if_neg (by (try simp only [beq_iff_eq, beq_eq_false_iff_ne, ne_eq] at *); simp [isA]; omega), Nat.add_zero], by rw [N2.out, if_pos (by (try simp only [beq_iff_eq, beq_eq_false_iff_ne, ne_eq] at *); simp [isB]; omega)], by rw [N3.out, if_neg (by (try simp only [beq_iff_eq, beq_eq_false_iff_ne, ne_eq] at *); simp [isC]; omega), Nat.add_zero], by first | trivial | rfl⟩, by simp [intOf]; omega⟩
        | exact ⟨⟨k + 1, a, b, c + 1, by omega, by simp, rfl, rfl, by simp, by rw [N1.out, if_neg (by (try simp only [beq_iff_eq, beq_eq_false_iff_ne, ne_eq] at *); simp [isA]; omega), Nat.add_zero], by rw [N2.out, if_neg (by (try simp only [beq_iff_eq, beq_eq_false_iff_ne, ne_eq] at *); simp [isB]; omega), Nat.add_zero], by rw [N3.out, if_pos (by (try simp only [beq_iff_eq, beq_eq_false_iff_ne, ne_eq] at *); simp [isC]; omega)], by first | trivial | rfl⟩, by simp [intOf]; omega⟩
    · have hk1 : ¬ (k : Int) < (n : Int) := by omega
      have e : xs.take k = xs := List.take_of_length_le (by rw [HL.out]; omega)
      rw [e] at H1 H2 H3
      have h1 := H1.out
      have h2 := H2.out
      have h3 := H3.out
      subst h1 h2 h3
      go_wp2
      exact bodyPost_ret (v := .tuple #[.int .i64 (cnt isA xs), .int .i64 (cnt isB xs), .int .i64 (cnt isC xs)]) (by simp [results, Try.results12, go_sem]) rfl ⟨rfl, rfl⟩
end Go.Proofs.Ytniffjjkjgfacaa
