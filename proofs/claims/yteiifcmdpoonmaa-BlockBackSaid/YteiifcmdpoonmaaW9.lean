/- The answer package's Num: its recursion. -/
import Derived.Test.YteiifcmdpoonmaaW8
import Derived.Deep.RegionWith
import Derived.IntWalk
namespace Go.Proofs.Yteiifcmdpoonmaa
set_option linter.unusedSimpArgs false
open Go.RowKit
set_option linter.unusedVariables false

theorem conv_one (x : Int) (h0 : 0 ≤ x) (h1 : x < 256) (B : Nat) (W : World) (hc : W.cell? ⟨B, 0, none⟩ = some (.int .u8 x)) :
    (convert 51 9 (.slice (some ⟨B, 0, none⟩) 1 1)).run Try.prog W = .ok (.string ⟨#[UInt8.ofNat x.toNat]⟩) W := by
  have t : ((UInt8.ofNat x.toNat).toNat : Int) = x := by rw [UInt8.toNat_ofNat']; omega
  refine run_convert_bytes_back (P := Try.prog) _ 51 9 5 ⟨B, 0, none⟩ 1 [UInt8.ofNat x.toNat] Try.underlying51 Try.underlying5 Try.underlying9 (fun j hj => ?_)
  simp only [List.length_cons, List.length_nil] at hj
  obtain rfl : j = 0 := by omega
  simp only [List.getElem_cons_zero, t]
  simpa [Addr.add] using hc
theorem conv_new (x : Int) (h0 : 0 ≤ x) (h1 : x < 256) (W : World) :
    (convert 51 9 (.slice (some ⟨W.heap.size, 0, none⟩) 1 1)).run Try.prog (W.alloc (.cells #[.int .u8 x] 5)) = .ok (.string ⟨#[UInt8.ofNat x.toNat]⟩) (W.alloc (.cells #[.int .u8 x] 5)) :=
  conv_one x h0 h1 _ _ (by simp [go_sem])
theorem conv_drew (x : Int) (h0 : 0 ≤ x) (h1 : x < 256) (W : World) :
    (convert 51 9 (.slice (some ⟨W.heap.size, 0, none⟩) 1 1)).run Try.prog (W.alloc (.cells #[.int .u8 x] 5)).drew = .ok (.string ⟨#[UInt8.ofNat x.toNat]⟩) (W.alloc (.cells #[.int .u8 x] 5)).drew :=
  conv_one x h0 h1 _ _ (by simp [go_sem])
theorem conv_old (x : Int) (h0 : 0 ≤ x) (h1 : x < 256) (W w1 : World) (hb : Below (W.alloc (.cells #[.int .u8 x] 5)).drew.heap.size (W.alloc (.cells #[.int .u8 x] 5)).drew w1) :
    (convert 51 9 (.slice (some ⟨W.heap.size, 0, none⟩) 1 1)).run Try.prog w1 = .ok (.string ⟨#[UInt8.ofNat x.toNat]⟩) w1 :=
  conv_one x h0 h1 _ _ (by rw [hb.cell (p := ⟨W.heap.size, 0, none⟩) (by simp)]; simp [go_sem])

theorem below_ca {W W1 : World} {o : Obj} (h : Below W.drew.heap.size W.drew W1) : Below W.heap.size W (W1.alloc o) := (((Below.refl _ _).drew).trans h).alloc h.size o
theorem below_ac {W W1 : World} {o : Obj} (h : Below (W.alloc o).drew.heap.size (W.alloc o).drew W1) : Below W.heap.size W W1 := ((((Below.refl _ _).alloc (Nat.le_refl _) o).drew)).trans (h.mono (by simp))

set_option maxHeartbeats 1000000 in
theorem rnum_step (n : Int) (t : ByteArray) (w : World) (h0 : 128 ≤ n) (h1 : n ≤ 2147483647) (hz : t.size ≤ 5)
    (ih : ∀ w, Calls Try.prog 31 #[.int .i64 (n / 128)] w fun e w' => e = .returned (.string t) ∧ Below w.heap.size w w') :
    Calls Try.prog 31 #[.int .i64 n] w fun e w' => e = .returned (.string (⟨#[UInt8.ofNat (n % 128 + 128).toNat]⟩ ++ t)) ∧ Below w.heap.size w w' := by
  have IH := Lib.hid ih
  clear ih
  have q1 : n.tmod 128 = n % 128 := Int.tmod_eq_emod_of_nonneg (by omega)
  have q2 : n.tdiv 128 = n / 128 := Int.tdiv_eq_ediv_of_nonneg (by omega)
  have q3 : IntKind.i64.wrap (n % 128 + 128) = n % 128 + 128 := IntWalk.i64_in _ (by omega)
  have q4 : IntKind.i64.wrap (n % 128) = n % 128 := IntWalk.i64_in _ (by omega)
  have q5 : IntKind.i64.wrap (n / 128) = n / 128 := IntWalk.i64_in _ (by omega)
  have q6 : IntKind.u8.wrap (n % 128 + 128) = n % 128 + 128 := by simp [IntKind.wrap, IntKind.bits, IntKind.signed]; omega
  have x0 : 0 ≤ n % 128 + 128 := by omega
  have x1 : n % 128 + 128 < 256 := by omega
  have e1 := conv_drew (n % 128 + 128) x0 x1 w
  go_enter Try.func31, Try.ntmps31
  go_wp2_with fail
  go_region_with (go_at_call 31; refine (IH.out _).mono ?_; rintro e w1 ⟨rfl, hb⟩; have e2 := conv_new (n % 128 + 128) x0 x1 w1; try have e3 := conv_old (n % 128 + 128) x0 x1 w w1 hb)
  all_goals
    go_wp2_with fail
    go_ret
    refine ⟨rfl, ?_⟩
    first
      | exact below_ca hb
      | exact below_ac hb

theorem numS_step (n : Int) (i : Nat) (h0 : 0 ≤ n) : (⟨#[UInt8.ofNat (n % 128 + 128).toNat]⟩ ++ numS (n / 128) i : ByteArray) = numS n (i + 1) := by
  have e : ∀ j, n / 128 / 128 ^ j = n / 128 ^ (j + 1) := fun j => by
    rw [Int.ediv_ediv_of_nonneg (by omega)]; congr 1; rw [Int.pow_succ]; omega
  apply ByteArray.ext
  simp only [ByteArray.data_append, numS]
  apply Array.ext'
  simp [List.range_succ_eq_map, e, ndb, nd]
theorem numI_step (n : Int) (h0 : 128 ≤ n) (h1 : n ≤ 2147483647) : numI n = numI (n / 128) + 1 := by
  unfold numI
  repeat' split
  all_goals first | rfl | omega
theorem rnum_any (n : Int) (w : World) :
    Calls Try.prog 31 #[.int .i64 n] w fun e w' => e = .returned (.string (numF n)) ∧ Below w.heap.size w w' := by
  by_cases h : 0 ≤ n ∧ n ≤ 2147483647
  · rw [numF, if_pos h]
    obtain ⟨k, hk⟩ : ∃ k, numI n = k := ⟨_, rfl⟩
    rw [hk]
    obtain ⟨h0, h1⟩ := h
    induction k generalizing n w with
    | zero =>
      have : n < 128 := by
        unfold numI at hk
        by_cases c : n < 128
        · exact c
        · rw [if_neg c] at hk
          repeat' split at hk
          all_goals omega
      exact (rnum_one n w h0 this).mono fun e w' ⟨he, hb⟩ => ⟨by rw [he]; simp [numS], hb⟩
    | succ k ih =>
      have c : 128 ≤ n := by
        unfold numI at hk
        by_cases c : n < 128
        · rw [if_pos c] at hk; omega
        · omega
      have hk' : numI (n / 128) = k := by have := numI_step n c h1; omega
      have s := rnum_step n (numS (n / 128) k) w c h1 (by rw [numS_size]; have := numI_le n; omega) (fun w => ih (n / 128) w hk' (by omega) (by omega))
      rw [numS_step n k h0] at s
      exact s
  · rw [numF, if_neg h]; exact rnum_off n w (by omega)
end Go.Proofs.Yteiifcmdpoonmaa
