/- What moves cost, on both sides. -/
import Derived.Test.YtniffjjkjgfacaaH1
namespace Go.Proofs.Ytniffjjkjgfacaa
set_option linter.unusedSimpArgs false
open Go.RowKit Go.Maps
set_option linter.unusedVariables false
def EW : RE Int where
  st := 69
  et := 54
  k := 1
  by_ := 1
  z := .int .u8 0
  cs := fun x => [.int .u8 x]
  kpos := by omega
  len := fun _ => rfl
  one := fun x u hu => by simp at hu; subst hu; rfl
  und := Try.underlying69
  info := by kernel_rfl
  zk := rfl
  bmax := by omega
theorem ew_at {w : World} {A : Option Addr} {xs : List Int} (h : EW.Rd w A xs) {i : Nat} {x : Int} (hi : xs[i]? = some x) : ∃ b off, A = some ⟨b, off, none⟩ ∧ b < w.heap.size ∧ w.cell? ⟨b, off + i, none⟩ = some (.int .u8 x) := by
  obtain ⟨b, off, e, h1, h2⟩ := h.get hi
  exact ⟨b, off, e, h1, by simpa [EW] using h2 0 _ rfl⟩
/-- How many did one of several things. -/
def numS (ws : List Int) (xs : List MV) : Nat := (ws.map fun c => num c xs).sum
theorem numS_nil (xs : List MV) : numS [] xs = 0 := rfl
theorem numS_next {ws : List Int} {k : Nat} {c : Int} (h : ws[k]? = some c) (xs : List MV) : numS (ws.take (k + 1)) xs = numS (ws.take k) xs + num c xs := by
  rw [List.take_add_one, h]
  simp [numS]
theorem numS_le (ws : List Int) (xs : List MV) : numS ws xs ≤ ws.length * xs.length := by
  induction ws with
  | nil => simp [numS]
  | cons c ws ih =>
    have := num_le c xs
    simp only [numS, List.map_cons, List.sum_cons, List.length_cons, Nat.succ_mul] at *
    omega
theorem numS_take {ws : List Int} {xs : List MV} {n m : Nat} (hl : xs.length = n) (hn : n ≤ 1000) (hm : ws.length = m) (hm2 : m ≤ 10) (k : Nat) : numS (ws.take k) xs ≤ 10000 := by
  have h := numS_le (ws.take k) xs
  have h2 : (ws.take k).length ≤ 10 := by rw [List.length_take]; omega
  have h3 : (ws.take k).length * xs.length ≤ 10 * 1000 := Nat.mul_le_mul h2 (by omega)
  omega
set_option maxHeartbeats 2000000 in
theorem counts_any (A : Option Addr) (n cap : Nat) (xs : List MV) (B : Option Addr) (m c2 : Nat) (ws : List Int) (w : World) (hl : xs.length = n) (hn : n ≤ 1000) (hA : EM.Rd w A xs) (hm : ws.length = m) (hm2 : m ≤ 10) (hB : EW.Rd w B ws) :
    Calls Try.prog 20 #[.slice A n cap, .slice B m c2] w fun r w' => r = .returned (.int .i64 (numS ws xs)) ∧ Below w.heap.size w w' := by
  have HL := Lib.hid hl
  have HM := Lib.hid hm
  have HB := Lib.hid hB
  have CT : Hid (∀ W, Below w.heap.size w W → ∀ c, Calls Try.prog 32 #[.slice A n cap, .int .u8 c] W fun r w' => r = .returned (.int .i64 (num c xs)) ∧ Below W.heap.size W w') := Lib.hid (fun W hW c => count_any c A n cap xs W hl hn (hA.later hW))
  have NT : Hid (∀ k, numS (ws.take k) xs ≤ 10000) := Lib.hid (numS_take hl hn hm hm2)
  clear hl hA hm hB
  go_enter Try.func20, Try.ntmps20
  go_wp2
  go_loopw [5, 10] (fun sv iv wr => ∃ (k t : Nat), k ≤ m ∧ iv = .int .i64 k ∧ sv = .int .i64 t ∧ numS (ws.take k) xs = t ∧ Below w.heap.size w wr) (fun _ i _ => m - (intOf i).toNat)
  case atStart => exact ⟨0, 0, by omega, rfl, rfl, rfl, Below.refl _ _⟩
  case round =>
    obtain ⟨k, t, hk, rfl, rfl, ht, hb⟩ := hrel
    have HT := Lib.hid ht
    have HBB := Lib.hid hb
    have hn1 := NT.out k
    rw [ht] at hn1
    clear ht hb
    by_cases h8 : k < m
    · have hk1 : (k : Int) < (m : Int) := by omega
      have hk0 : (0 : Int) ≤ (k : Int) := by omega
      obtain ⟨c, hc⟩ : ∃ c, ws[k]? = some c := ⟨_, List.getElem?_eq_getElem (by rw [HM.out]; omega)⟩
      obtain ⟨b, off, rfl, hlt, g0⟩ := ew_at (HB.out.later HBB.out) hc
      have hnx := numS_next hc xs
      rw [HT.out] at hnx
      have hn2 := NT.out (k + 1)
      rw [hnx] at hn2
      have C := Lib.hid (CT.out wr HBB.out c)
      have HNX := Lib.hid hnx
      obtain ⟨q, hq⟩ : ∃ q, q = num c xs := ⟨_, rfl⟩
      rw [← hq] at C HNX hn2
      clear hc hnx hlt hq
      go_wp2_with (first
        | (go_at_call 32; ((with_reducible refine C.out.mono ?_); rintro e w1 ⟨rfl, b1⟩; have B1 := Lib.hid (bel_trans HBB.out b1); clear b1))
        | fail)
      exact ⟨⟨k + 1, t + q, by omega, by simp, by simp, HNX.out, B1.out⟩, by simp [intOf]; omega⟩
    · have hk1 : ¬ (k : Int) < (m : Int) := by omega
      have e : ws.take k = ws := List.take_of_length_le (by rw [HM.out]; omega)
      rw [e] at HT
      have ht := HT.out
      subst ht
      go_wp2
      go_ret
      exact ⟨rfl, HBB.out⟩
abbrev WA : List Int := [8, 9, 10, 11, 12, 13, 14]
abbrev WB : List Int := [2, 15]
abbrev WC : List Int := [4, 7]
set_option maxHeartbeats 2000000 in
theorem cost_any (A : Option Addr) (n cap : Nat) (xs : List MV) (w : World) (hl : xs.length = n) (hn : n ≤ 1000) (hA : EM.Rd w A xs) :
    Calls Try.prog 11 #[.slice A n cap] w fun r w' => r = .returned (.tuple #[.int .i64 (numS WA xs), .int .i64 (numS WB xs), .int .i64 (numS WC xs)]) ∧ Below w.heap.size w w' := by
  have HA := Lib.hid hA
  have CT : Hid (∀ W B m c2 ws, Below w.heap.size w W → ws.length = m → m ≤ 10 → EW.Rd W B ws → Calls Try.prog 20 #[.slice A n cap, .slice B m c2] W fun r w' => r = .returned (.int .i64 (numS ws xs)) ∧ Below W.heap.size W w') := Lib.hid (fun W B m c2 ws hW h1 h2 h3 => counts_any A n cap xs B m c2 ws W hl hn (hA.later hW) h1 h2 h3)
  clear hA
  have b1 := alb w (.cells #[.int .u8 8, .int .u8 9, .int .u8 10, .int .u8 11, .int .u8 12, .int .u8 13, .int .u8 14] 54)
  have C1 := Lib.hid (CT.out _ (some ⟨w.heap.size, 0, none⟩) 7 7 WA b1 rfl (by omega) (RE.Rd.lit (E := EW) w 54 WA #[.int .u8 8, .int .u8 9, .int .u8 10, .int .u8 11, .int .u8 12, .int .u8 13, .int .u8 14] rfl))
  clear b1
  go_enter Try.func11, Try.ntmps11
  go_wp2_with (first
    | (go_at_call 20; ((with_reducible refine C1.out.mono ?_); rintro e w1 ⟨rfl, b1⟩; have B1 := Lib.hid (bel_alloc (bel_a b1) (.cells #[.int .u8 2, .int .u8 15] 54)); have C2 := Lib.hid (CT.out _ (some ⟨w1.heap.size, 0, none⟩) 2 2 WB B1.out rfl (by omega) (RE.Rd.lit (E := EW) w1 54 WB #[.int .u8 2, .int .u8 15] rfl)); clear b1))
    | (go_at_call 20; ((with_reducible refine C2.out.mono ?_); rintro e w2 ⟨rfl, b2⟩; have B2 := Lib.hid (bel_alloc (bel_trans B1.out b2) (.cells #[.int .u8 4, .int .u8 7] 54)); have C3 := Lib.hid (CT.out _ (some ⟨w2.heap.size, 0, none⟩) 2 2 WC B2.out rfl (by omega) (RE.Rd.lit (E := EW) w2 54 WC #[.int .u8 4, .int .u8 7] rfl)); clear b2))
    | (go_at_call 20; ((with_reducible refine C3.out.mono ?_); rintro e w3 ⟨rfl, b3⟩; have B3 := Lib.hid (bel_trans B2.out b3); clear b3))
    | fail)
  exact bodyPost_ret (v := .tuple #[.int .i64 (numS WA xs), .int .i64 (numS WB xs), .int .i64 (numS WC xs)]) (by simp [results, Try.results11, go_sem]) rfl ⟨rfl, B3.out⟩
end Go.Proofs.Ytniffjjkjgfacaa
