/- Bytes, Newest: of all messages. -/
import Derived.Test.YtdbnkeihnoglcaaM2
namespace Go.Proofs.Ytdbnkeihnoglcaa
set_option linter.unusedSimpArgs false
open Go.RowKit Go.Maps
set_option linter.unusedVariables false
def OkA (xs : List MG) : Prop := ∀ x ∈ xs, x.Ok
theorem OkA.get {xs : List MG} (h : OkA xs) {k : Nat} {x : MG} (hx : xs[k]? = some x) : x.Ok := h x (List.mem_of_getElem? hx)
def byN : List MG → Int
  | [] => 0
  | x :: xs => szN x + byN xs
theorem byN_app (xs ys : List MG) : byN (xs ++ ys) = byN xs + byN ys := by
  induction xs with
  | nil => simp [byN]
  | cons x xs ih => simp [byN, ih]; omega
theorem byN_next {xs : List MG} {k : Nat} {x : MG} (h : xs[k]? = some x) : byN (xs.take (k + 1)) = byN (xs.take k) + szN x := by
  rw [List.take_add_one, h, byN_app]; simp [byN]
theorem szN_le {x : MG} (h : x.Ok) : 0 ≤ szN x ∧ szN x ≤ 500000000000000 := by
  obtain ⟨h1, h2, h3⟩ := h
  unfold szN; omega
theorem byN_le {xs : List MG} (h : OkA xs) : 0 ≤ byN xs ∧ byN xs ≤ 500000000000000 * (xs.length : Int) := by
  induction xs with
  | nil => simp [byN]
  | cons x xs ih =>
    obtain ⟨a, b⟩ := ih (fun y hy => h y (List.mem_cons_of_mem _ hy))
    obtain ⟨c, d⟩ := szN_le (h x List.mem_cons_self)
    simp only [byN, List.length_cons]
    omega
theorem byN_take {xs : List MG} (h : OkA xs) (k : Nat) : 0 ≤ byN (xs.take k) ∧ byN (xs.take k) ≤ 500000000000000 * (k : Int) := by
  obtain ⟨a, b⟩ := byN_le (xs := xs.take k) (fun y hy => h y (List.mem_of_mem_take hy))
  have : ((xs.take k).length : Int) ≤ k := by simp [List.length_take]; omega
  exact ⟨a, by omega⟩
set_option maxRecDepth 10000 in
set_option maxHeartbeats 2000000 in
theorem bytes_any (A : Option Addr) (n cap : Nat) (xs : List MG) (w : World) (hl : xs.length = n) (hn : n ≤ 1000) (hA : EG.Rd w A xs) (ho : OkA xs) :
    Calls Try.prog 12 #[.slice A n cap] w fun r w' => r = .returned (.int .i64 (byN xs)) ∧ Below w.heap.size w w' := by
  have HL := Lib.hid hl
  have HA := Lib.hid hA
  have HO := Lib.hid ho
  clear hl hA ho
  go_enter Try.func12, Try.ntmps12
  go_wp2
  go_loopw [3, 8] (fun sv iv wr => ∃ (k : Nat) (s : Int), k ≤ n ∧ iv = .int .i64 k ∧ sv = .int .i64 s ∧ byN (xs.take k) = s ∧ Below w.heap.size w wr) (fun _ i _ => n - (intOf i).toNat)
  case atStart => exact ⟨0, 0, by omega, rfl, rfl, rfl, Below.refl _ _⟩
  case round =>
    obtain ⟨k, s, hk, rfl, rfl, hm, hb⟩ := hrel
    have HM := Lib.hid hm
    have HB := Lib.hid hb
    clear hm hb
    by_cases h8 : k < n
    · have hk1 : (k : Int) < (n : Int) := by omega
      have hk0 : (0 : Int) ≤ (k : Int) := by omega
      obtain ⟨x, hx⟩ : ∃ x, xs[k]? = some x := ⟨_, List.getElem?_eq_getElem (by rw [HL.out]; omega)⟩
      obtain ⟨b, off, rfl, hlt, g0, g1, g2, g3, g4, g5⟩ := eg_at (HA.out.later HB.out) hx
      have HNX := Lib.hid (byN_next hx)
      have AX := Lib.hid (size_any x (HO.out.get hx) (wr.alloc (MO x)))
      obtain ⟨s1, s2⟩ := szN_le (HO.out.get hx)
      obtain ⟨t1, t2⟩ := byN_take HO.out k
      rw [HM.out] at t1 t2 HNX
      have t3 : s ≤ 500000000000000000 := by omega
      obtain ⟨u, hu⟩ : ∃ u, u = szN x := ⟨_, rfl⟩
      rw [← hu] at s1 s2 AX HNX
      clear hx hlt t2 hu
      go_wp2_with (first
        | (go_at_call 40; ((with_reducible refine AX.out.mono ?_); rintro e w1 ⟨rfl, b1⟩; have B1 := Lib.hid (bel_a b1); clear b1))
        | fail)
      exact ⟨⟨k + 1, s + u, by omega, by simp, rfl, HNX.out, bel_trans HB.out B1.out⟩, by simp [intOf]; omega⟩
    · have hk1 : ¬ (k : Int) < (n : Int) := by omega
      have e : xs.take k = xs := List.take_of_length_le (by rw [HL.out]; omega)
      rw [e] at HM
      have hm := HM.out
      subst hm
      go_wp2
      go_ret
      exact ⟨rfl, HB.out⟩
set_option maxRecDepth 10000 in
set_option maxHeartbeats 2000000 in
theorem rbytes_any (A : Option Addr) (n cap : Nat) (xs : List MG) (w : World) (hl : xs.length = n) (hn : n ≤ 1000) (hA : EG.Rd w A xs) (ho : OkA xs) :
    Calls Try.prog 13 #[.slice A n cap] w fun r w' => r = .returned (.int .i64 (byN xs)) ∧ Below w.heap.size w w' := by
  have HL := Lib.hid hl
  have HA := Lib.hid hA
  have HO := Lib.hid ho
  clear hl hA ho
  go_enter Try.func13, Try.ntmps13
  go_wp2
  go_loopw [3, 4] (fun sv iv wr => ∃ (k : Nat) (s : Int), k ≤ n ∧ iv = .int .i64 k ∧ sv = .int .i64 s ∧ byN (xs.take k) = s ∧ Below w.heap.size w wr) (fun _ i _ => n - (intOf i).toNat)
  case atStart => exact ⟨0, 0, by omega, rfl, rfl, rfl, Below.refl _ _⟩
  case round =>
    obtain ⟨k, s, hk, rfl, rfl, hm, hb⟩ := hrel
    have HM := Lib.hid hm
    have HB := Lib.hid hb
    clear hm hb
    by_cases h8 : k < n
    · have hk1 : (k : Int) < (n : Int) := by omega
      have hk0 : (0 : Int) ≤ (k : Int) := by omega
      obtain ⟨x, hx⟩ : ∃ x, xs[k]? = some x := ⟨_, List.getElem?_eq_getElem (by rw [HL.out]; omega)⟩
      obtain ⟨b, off, rfl, hlt, g0, g1, g2, g3, g4, g5⟩ := eg_at (HA.out.later HB.out) hx
      have HNX := Lib.hid (byN_next hx)
      have AX := Lib.hid (rsize_any x (HO.out.get hx) wr)
      obtain ⟨s1, s2⟩ := szN_le (HO.out.get hx)
      obtain ⟨t1, t2⟩ := byN_take HO.out k
      rw [HM.out] at t1 t2 HNX
      have t3 : s ≤ 500000000000000000 := by omega
      obtain ⟨u, hu⟩ : ∃ u, u = szN x := ⟨_, rfl⟩
      rw [← hu] at s1 s2 AX HNX
      clear hx hlt t2 hu
      go_wp2_with (first
        | (go_at_call 41; ((with_reducible refine AX.out.mono ?_); rintro e w1 ⟨rfl, b1⟩; have B1 := Lib.hid b1; clear b1))
        | fail)
      exact ⟨⟨k + 1, s + u, by omega, by simp, rfl, HNX.out, bel_trans HB.out B1.out⟩, by simp [intOf]; omega⟩
    · have hk1 : ¬ (k : Int) < (n : Int) := by omega
      have e : xs.take k = xs := List.take_of_length_le (by rw [HL.out]; omega)
      rw [e] at HM
      have hm := HM.out
      subst hm
      go_wp2
      go_ret
      exact ⟨rfl, HB.out⟩
/-- The greatest number. -/
def newN : List MG → Int
  | [] => 0
  | x :: xs => xs.foldl (fun a y => if a < y.sq then y.sq else a) x.sq
theorem newN_next {xs : List MG} {k : Nat} {x : MG} (h : xs[k]? = some x) : newN (xs.take (k + 1)) = if k = 0 then x.sq else if newN (xs.take k) < x.sq then x.sq else newN (xs.take k) := by
  cases k with
  | zero =>
    cases xs with
    | nil => cases h
    | cons y ys => simp at h; simp [newN, h]
  | succ k =>
    cases xs with
    | nil => cases h
    | cons y ys =>
      have h' : ys[k]? = some x := by simpa using h
      simp only [List.take_succ_cons, newN]
      rw [List.take_add_one, h']
      simp only [Option.toList_some, List.foldl_append, List.foldl_cons, List.foldl_nil]
      rw [if_neg (Nat.succ_ne_zero k)]
      first | rfl | congr
set_option maxRecDepth 10000 in
set_option maxHeartbeats 2000000 in
theorem newest_any (A : Option Addr) (n cap : Nat) (xs : List MG) (w : World) (hl : xs.length = n) (hn : n ≤ 1000) (hA : EG.Rd w A xs) :
    Calls Try.prog 19 #[.slice A n cap] w fun r w' => r = .returned (.int .i64 (newN xs)) ∧ Below w.heap.size w w' := by
  have HL := Lib.hid hl
  have HA := Lib.hid hA
  clear hl hA
  go_enter Try.func19, Try.ntmps19
  go_wp2
  go_loopw [3, 8] (fun sv iv wr => ∃ (k : Nat) (s : Int), k ≤ n ∧ iv = .int .i64 k ∧ sv = .int .i64 s ∧ newN (xs.take k) = s ∧ Below w.heap.size w wr) (fun _ i _ => n - (intOf i).toNat)
  case atStart => exact ⟨0, 0, by omega, rfl, rfl, rfl, Below.refl _ _⟩
  case round =>
    obtain ⟨k, s, hk, rfl, rfl, hm, hb⟩ := hrel
    have HM := Lib.hid hm
    have HB := Lib.hid hb
    clear hm hb
    by_cases h8 : k < n
    · have hk1 : (k : Int) < (n : Int) := by omega
      have hk0 : (0 : Int) ≤ (k : Int) := by omega
      obtain ⟨x, hx⟩ : ∃ x, xs[k]? = some x := ⟨_, List.getElem?_eq_getElem (by rw [HL.out]; omega)⟩
      obtain ⟨b, off, rfl, hlt, g0, g1, g2, g3, g4, g5⟩ := eg_at (HA.out.later HB.out) hx
      have HNX := Lib.hid (newN_next hx)
      rw [HM.out] at HNX
      have BX := Lib.hid (bel_alloc HB.out (MO x))
      obtain ⟨y0, y1, y2, y3, y4, y5⟩ := cells6 (heap_alloc_new wr (MO x))
      clear hx hlt
      by_cases hz : k = 0
      · have hk2 : (((k : Nat) : Int) == 0) = true := by rw [beq_iff_eq]; omega
        rw [if_pos hz] at HNX
        clear hz
        go_wp2
        exact ⟨⟨k + 1, x.sq, by omega, by simp, rfl, HNX.out, BX.out⟩, by simp [intOf]; omega⟩
      · have hk2 : (((k : Nat) : Int) == 0) = false := by rw [beq_eq_false_iff_ne]; omega
        rw [if_neg hz] at HNX
        clear hz
        by_cases h9 : s < x.sq
        · rw [if_pos h9] at HNX
          go_wp2
          exact ⟨⟨k + 1, x.sq, by omega, by simp, rfl, HNX.out, BX.out⟩, by simp [intOf]; omega⟩
        · rw [if_neg h9] at HNX
          go_wp2
          exact ⟨⟨k + 1, s, by omega, by simp, rfl, HNX.out, BX.out⟩, by simp [intOf]; omega⟩
    · have hk1 : ¬ (k : Int) < (n : Int) := by omega
      have e : xs.take k = xs := List.take_of_length_le (by rw [HL.out]; omega)
      rw [e] at HM
      have hm := HM.out
      subst hm
      go_wp2
      go_ret
      exact ⟨rfl, HB.out⟩
end Go.Proofs.Ytdbnkeihnoglcaa
