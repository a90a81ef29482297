/- The document's table of cursors. -/
import Derived.Test.YtdbcaiggliiacaaE2
import Derived.Test.YtdbcaiggliiacaaG1
namespace Go.Proofs.Ytdbcaiggliiacaa
set_option linter.unusedSimpArgs false
open Go.RowKit Go.Maps
set_option linter.unusedVariables false
/-- A cursor of the document's: from, to, at its end, closed. -/
abbrev RC := ByteArray × ByteArray × Bool × Bool
def EQ : RE RC where
  st := 25
  et := 67
  k := 4
  by_ := 40
  z := .agg #[.string ⟨#[]⟩, .string ⟨#[]⟩, .bool false, .bool false]
  cs := fun x => [.string x.1, .string x.2.1, .bool x.2.2.1, .bool x.2.2.2]
  kpos := by omega
  len := fun _ => rfl
  one := fun x u hu => by simp at hu; rcases hu with rfl | rfl | rfl | rfl <;> rfl
  und := Try.underlying25
  info := by kernel_rfl
  zk := rfl
  bmax := by omega
theorem eq_at {w : World} {A : Option Addr} {xs : List RC} (h : EQ.Rd w A xs) {i : Nat} {x : RC} (hi : xs[i]? = some x) : ∃ b off, A = some ⟨b, off, none⟩ ∧ b < w.heap.size ∧ w.cell? ⟨b, off + i * 4, none⟩ = some (.string x.1) ∧ w.cell? ⟨b, off + i * 4 + 1, none⟩ = some (.string x.2.1) ∧ w.cell? ⟨b, off + i * 4 + 2, none⟩ = some (.bool x.2.2.1) ∧ w.cell? ⟨b, off + i * 4 + 3, none⟩ = some (.bool x.2.2.2) := by
  obtain ⟨b, off, e, h1, h2⟩ := h.get hi
  exact ⟨b, off, e, h1, by simpa [EQ] using h2 0 _ rfl, by simpa [EQ] using h2 1 _ rfl, by simpa [EQ] using h2 2 _ rfl, by simpa [EQ] using h2 3 _ rfl⟩
/-- What the table says of a number. -/
def lk (xs : List RC) (n : Int) : Option Cur :=
  if 1 ≤ n ∧ n ≤ (xs.length : Int) then match xs[(n - 1).toNat]? with
    | some (f, t, e, false) => some (f, t, e)
    | _ => none
  else none
theorem lk_in {xs : List RC} {n : Int} {c : Cur} (h : lk xs n = some c) : ∃ p : Nat, n = (p : Int) + 1 ∧ p < xs.length ∧ xs[p]? = some (c.1, c.2.1, c.2.2, false) := by
  unfold lk at h
  split at h
  · rename_i hr
    refine ⟨(n - 1).toNat, by omega, by omega, ?_⟩
    split at h
    · rename_i f t e he; cases h; exact he
    · cases h
  · cases h
theorem lk_out {xs : List RC} {n : Int} (h : lk xs n = none) : ¬ 1 ≤ n ∨ (1 ≤ n ∧ ¬ n ≤ (xs.length : Int)) ∨ ∃ p : Nat, n = (p : Int) + 1 ∧ p < xs.length ∧ ∃ f t e, xs[p]? = some (f, t, e, true) := by
  unfold lk at h
  split at h
  · rename_i hr
    refine .inr (.inr ⟨(n - 1).toNat, by omega, by omega, ?_⟩)
    obtain ⟨x, hx⟩ : ∃ x, xs[(n - 1).toNat]? = some x := ⟨_, List.getElem?_eq_getElem (by omega)⟩
    rw [hx] at h
    obtain ⟨f, t, e, c⟩ := x
    cases c with
    | true => exact ⟨f, t, e, hx⟩
    | false => cases h
  · by_cases h1 : 1 ≤ n
    · exact .inr (.inl ⟨h1, by omega⟩)
    · exact .inl h1
theorem is_some {w : World} {A : Option Addr} {xs : List RC} (h : EQ.Rd w A xs) {n : Int} {c : Cur} (hk : lk xs n = some c) (q cap : Nat) (hq : xs.length = q) (hq2 : q ≤ 1000000) :
    Calls Try.prog 26 #[.slice A q cap, .int .i64 n] w fun e w' => e = .returned (.bool true) ∧ w = w' := by
  obtain ⟨p, rfl, hp, hx⟩ := lk_in hk
  obtain ⟨b, off, rfl, hlt, c0, c1, c2, c3⟩ := eq_at h hx
  have i0 : (0 : Int) ≤ (p : Int) := by omega
  have i1 : (p : Int) < (q : Int) := by omega
  have i2 : (1 : Int) ≤ (p : Int) + 1 := by omega
  have i3 : (p : Int) + 1 ≤ (q : Int) := by omega
  have i4 : (p : Int) + 1 - 1 = (p : Int) := by omega
  clear h hk hx hq hp c0 c1 c2
  simp only at c3
  go_enter Try.func26, Try.ntmps26
  go_wp2
  go_ret
  exact ⟨rfl, rfl⟩
theorem is_none {w : World} {A : Option Addr} {xs : List RC} (h : EQ.Rd w A xs) {n : Int} (hk : lk xs n = none) (q cap : Nat) (hq : xs.length = q) (hq2 : q ≤ 1000000) :
    Calls Try.prog 26 #[.slice A q cap, .int .i64 n] w fun e w' => e = .returned (.bool false) ∧ w = w' := by
  rcases lk_out hk with i2 | ⟨i2, i3⟩ | ⟨p, rfl, hp, f, t, e, hx⟩
  · clear h hk hq
    go_enter Try.func26, Try.ntmps26
    go_wp2
    go_ret
    exact ⟨rfl, rfl⟩
  · rw [hq] at i3
    clear h hk hq
    go_enter Try.func26, Try.ntmps26
    go_wp2
    go_ret
    exact ⟨rfl, rfl⟩
  · obtain ⟨b, off, rfl, hlt, c0, c1, c2, c3⟩ := eq_at h hx
    have i0 : (0 : Int) ≤ (p : Int) := by omega
    have i1 : (p : Int) < (q : Int) := by omega
    have i2 : (1 : Int) ≤ (p : Int) + 1 := by omega
    have i3 : (p : Int) + 1 ≤ (q : Int) := by omega
    have i4 : (p : Int) + 1 - 1 = (p : Int) := by omega
    clear h hk hx hq hp c0 c1 c2
    simp only at c3
    go_enter Try.func26, Try.ntmps26
    go_wp2
    go_ret
    exact ⟨rfl, rfl⟩
/-- How many cursors are not closed. -/
def opn (xs : List RC) : Nat := (xs.filter fun x => !x.2.2.2).length
theorem opn_take {xs : List RC} {k : Nat} {x : RC} (h : xs[k]? = some x) : opn (xs.take (k + 1)) = opn (xs.take k) + if x.2.2.2 = true then 0 else 1 := by
  obtain ⟨h1, e1⟩ := List.getElem?_eq_some_iff.1 h
  rw [List.take_succ_eq_append_getElem h1, e1]
  unfold opn
  rw [List.filter_append, List.length_append]
  cases hc : x.2.2.2 <;> simp [hc]
theorem opn_le (xs : List RC) : opn xs ≤ xs.length := List.length_filter_le _ _
set_option maxHeartbeats 1000000 in
theorem rlen_any {w : World} {A : Option Addr} {xs : List RC} (h : EQ.Rd w A xs) (q cap : Nat) (hq : xs.length = q) (hq2 : q ≤ 1000000) :
    Calls Try.prog 28 #[.slice A q cap] w fun e w' => e = .returned (.int .i64 (opn xs)) ∧ w = w' := by
  have HA := Lib.hid h
  have HL := Lib.hid hq
  clear h hq
  go_enter Try.func28, Try.ntmps28
  go_wp2
  go_loopw [3, 4] (fun nv kv wr => ∃ k : Nat, k ≤ q ∧ kv = .int .i64 k ∧ nv = .int .i64 (opn (xs.take k)) ∧ w = wr) (fun _ k _ => q - (intOf k).toNat)
  case atStart => exact ⟨0, by omega, rfl, rfl, rfl⟩
  case round =>
    obtain ⟨k, hk, rfl, rfl, rfl⟩ := hrel
    by_cases h8 : k < q
    · have hk1 : (k : Int) < (q : Int) := by omega
      have hk0 : (0 : Int) ≤ (k : Int) := by omega
      obtain ⟨x, hx⟩ : ∃ x, xs[k]? = some x := ⟨_, List.getElem?_eq_getElem (by rw [HL.out]; omega)⟩
      obtain ⟨b, off, rfl, hlt, c0, c1, c2, c3⟩ := eq_at HA.out hx
      have ho := opn_take hx
      have hle := opn_le (xs.take k)
      have hl2 : (xs.take k).length ≤ 1000000 := by rw [List.length_take, HL.out]; omega
      obtain ⟨o1, ho1⟩ : ∃ o1, opn (xs.take k) = o1 := ⟨_, rfl⟩
      rw [ho1] at ho hle ⊢
      obtain ⟨x0, x1, x2, x3⟩ := x
      simp only at c3 ho
      have j0 : (o1 : Int) + 1 ≤ 9223372036854775807 := by omega
      clear hx c0 c1 c2 hle hl2 ho1
      cases x3
      · simp at ho
        have HO := Lib.hid ho
        clear ho
        go_wp2
        exact ⟨⟨k + 1, by omega, by simp, by rw [HO.out]; simp, by trivial⟩, by simp [intOf]; omega⟩
      · simp at ho
        have HO := Lib.hid ho
        clear ho
        go_wp2
        exact ⟨⟨k + 1, by omega, by simp, by rw [HO.out], by trivial⟩, by simp [intOf]; omega⟩
    · have hk1 : ¬ (k : Int) < (q : Int) := by omega
      have hr : xs.take k = xs := List.take_of_length_le (by rw [HL.out]; omega)
      rw [hr]
      clear hr
      go_wp2
      go_ret
      exact ⟨rfl, rfl⟩
end Go.Proofs.Ytdbcaiggliiacaa
