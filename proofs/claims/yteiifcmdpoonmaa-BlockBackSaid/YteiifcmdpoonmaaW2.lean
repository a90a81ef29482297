/- The word functions: TakeNum's walk. -/
import Derived.Test.YteiifcmdpoonmaaW1
namespace Go.Proofs.Yteiifcmdpoonmaa
set_option linter.unusedSimpArgs false
open Go.RowKit
set_option linter.unusedVariables false

def tnF (s : ByteArray) : Int × ByteArray × Int := tn s 5 0 0

theorem tn_unfold (s : ByteArray) (m : Int) (k : Nat) (h : k < 5) (hs : k < s.size) : tn s (5 - k) k m =
    if bt s k < 128 then
      (if 2147483647 < m + bt s k % 128 * 128 ^ k ∨ (bt s k = 0 ∧ 0 < k) then (0, ⟨#[]⟩, 3) else (m + bt s k % 128 * 128 ^ k, s.extract (k + 1) s.size, 0))
    else tn s (5 - (k + 1)) (k + 1) (m + bt s k % 128 * 128 ^ k) := by
  have e : 5 - k = (5 - (k + 1)) + 1 := by omega
  rw [e, tn, if_neg (by omega)]
theorem tn_end (s : ByteArray) (m : Int) (k f : Nat) (h : k < 5) (hs : s.size ≤ k) (hf : f = 5 - k := by rfl) : tn s f k m = (0, ⟨#[]⟩, 5) := by
  subst hf
  have e : 5 - k = (5 - (k + 1)) + 1 := by omega
  rw [e, tn, if_pos hs]
theorem tn_next (s : ByteArray) (m : Int) (k : Nat) (h : k < 5) (hs : k < s.size) (hb : 128 ≤ bt s k) : tn s (5 - k) k m = tn s (5 - (k + 1)) (k + 1) (m + bt s k % 128 * 128 ^ k) := by
  rw [tn_unfold s m k h hs, if_neg (by omega)]
theorem tn_big (s : ByteArray) (m : Int) (k : Nat) (h : k < 5) (hs : k < s.size) (hb : bt s k < 128) (hx : 2147483647 < m + bt s k % 128 * 128 ^ k) : tn s (5 - k) k m = (0, ⟨#[]⟩, 3) := by
  rw [tn_unfold s m k h hs, if_pos hb, if_pos (.inl hx)]
theorem tn_zero (s : ByteArray) (m : Int) (k : Nat) (h : k < 5) (hs : k < s.size) (hb : bt s k = 0) (hk : 0 < k) : tn s (5 - k) k m = (0, ⟨#[]⟩, 3) := by
  rw [tn_unfold s m k h hs, if_pos (by omega), if_pos (.inr ⟨hb, hk⟩)]
theorem tn_ok (s : ByteArray) (m : Int) (k : Nat) (h : k < 5) (hs : k < s.size) (hb : bt s k < 128) (hx : ¬ 2147483647 < m + bt s k % 128 * 128 ^ k) (hk : ¬ (bt s k = 0 ∧ 0 < k)) : tn s (5 - k) k m = (m + bt s k % 128 * 128 ^ k, s.extract (k + 1) s.size, 0) := by
  rw [tn_unfold s m k h hs, if_pos hb, if_neg (by rintro (h | h); exact hx h; exact hk h)]
theorem next_step (m b : Int) (k : Nat) (h : k < 5) (m0 : 0 ≤ m) (m1 : m < 128 ^ k) : 0 ≤ m + b % 128 * 128 ^ k ∧ m + b % 128 * 128 ^ k < 128 ^ (k + 1) := by
  rcases (by omega : k = 0 ∨ k = 1 ∨ k = 2 ∨ k = 3 ∨ k = 4) with rfl | rfl | rfl | rfl | rfl
  all_goals
    simp only [Nat.reduceAdd, Int.reducePow] at *
    constructor <;> omega
theorem val_step (m b : Int) (k : Nat) (h : k < 5) (m0 : 0 ≤ m) (m1 : m < 128 ^ k) (b0 : 0 ≤ b) : bits BinOp.or IntKind.i64 m (wrap64 (b % 128 * 2 ^ (7 * k))) = m + b % 128 * 128 ^ k := by
  have e : wrap64 (b % 128 * 2 ^ (7 * k)) = b % 128 * 128 ^ k := by
    rcases (by omega : k = 0 ∨ k = 1 ∨ k = 2 ∨ k = 3 ∨ k = 4) with rfl | rfl | rfl | rfl | rfl
    all_goals
      simp only [Nat.reduceMul, Int.reducePow, wrap64]
      omega
  rw [e]
  exact or_step m (b % 128) k h m0 m1 (by omega) (by omega)

set_option maxHeartbeats 2000000 in
theorem takeNum_short (s : ByteArray) (w : World) (hz : s.size < 5) :
    Calls Try.prog 35 #[.string s] w fun e w' => e = .returned (tnV (tnF s)) ∧ Below w.heap.size w w' := by
  have hz' : (s.size : Int) < 5 := by omega
  go_enter Try.func35, Try.ntmps35
  go_wp2
  go_loopw [5, 10] (fun n i wr => ∃ k : Nat, ∃ m : Int, k ≤ s.size ∧ i = .int .i64 k ∧ n = .int .i64 m ∧ 0 ≤ m ∧ m < 128 ^ k ∧ tn s (5 - k) k m = tnF s ∧ Below w.heap.size w wr) (fun _ i _ => s.size - (intOf i).toNat)
  case atStart => exact ⟨0, 0, by omega, rfl, rfl, by omega, by decide, rfl, Below.refl _ _⟩
  case round =>
    obtain ⟨k, m, hk, rfl, rfl, m0, m1, ht, hB⟩ := hrel
    by_cases h8 : k = s.size
    · subst h8
      have HT : tnF s = (0, ⟨#[]⟩, 5) := by rw [← ht]; exact tn_end s m _ _ (by omega) (by omega)
      clear ht m0 m1
      rw [HT]
      go_wp2
      refine bodyPost_ret (v := tnV (0, ⟨#[]⟩, 5)) (by simp [results, Try.results35, go_sem, tnV]) rfl ⟨by first | rfl | rw [HT], hB⟩
    · have hks : k < s.size := by omega
      have hk5 : k < 5 := by omega
      have hkl : (k : Int) < (s.size : Int) := by omega
      have hkz : (k : Int) < (s.size : Int) := by omega
      have g := bt_get s k hks
      obtain ⟨b, hb⟩ : ∃ b, b = bt s k := ⟨_, rfl⟩
      have b0 : 0 ≤ b := by rw [hb]; exact bt_lo _ _
      have b1 : b < 256 := by rw [hb]; exact bt_hi _ _
      rw [← hb] at g
      have a1 := and127 b b0 b1
      have v1 := val_step m b k hk5 m0 m1 b0
      obtain ⟨X, hX⟩ : ∃ X, X = m + b % 128 * 128 ^ k := ⟨_, rfl⟩
      rw [← hX] at v1
      by_cases c1 : 128 ≤ b
      · have x := next_step m b k hk5 m0 m1
        rw [← hX] at x
        have HT : tn s (5 - (k + 1)) (k + 1) X = tnF s := by rw [← ht, hX, hb]; exact (tn_next s m k hk5 hks (by rw [← hb]; exact c1)).symm
        clear ht hb hX m0 m1
        have HH := Lib.hid HT
        clear HT
        go_wp2
        exact ⟨⟨k + 1, X, by omega, by simp, rfl, x.1, x.2, HH.out, hB⟩, by simp [intOf]; omega⟩
      · by_cases c2 : 2147483647 < X
        · have HT : tnF s = (0, ⟨#[]⟩, 3) := by rw [← ht]; exact tn_big s m k hk5 hks (by rw [← hb]; omega) (by rw [← hb, ← hX]; exact c2)
          clear ht hb hX m0 m1
          rw [HT]
          go_wp2
          all_goals refine bodyPost_ret (v := tnV (0, ⟨#[]⟩, 3)) (by simp [results, Try.results35, go_sem, tnV]) rfl ⟨by first | rfl | rw [HT], hB⟩
        · by_cases c3 : b = 0
          · by_cases c4 : k = 0
            · have HT : tnF s = (X, s.extract (k + 1) s.size, 0) := by rw [← ht, hX, hb]; exact tn_ok s m k hk5 hks (by rw [← hb]; omega) (by rw [← hb, ← hX]; exact c2) (by omega)
              subst c4
              subst c3
              have hm0 : m = 0 := by simp at m1; omega
              subst hm0
              have hX0 : X = 0 := by simp at hX; exact hX
              subst hX0
              clear ht hb hX m0 m1 v1 a1 b0 b1 c1 c2
              have z0 : bits BinOp.and IntKind.u8 0 127 = 0 := by decide
              have z2 : bits BinOp.or IntKind.i64 0 0 = 0 := by decide
              go_wp2
              try go_region
              go_wp2
              refine bodyPost_ret (v := tnV (0, s.extract 1 s.size, 0)) (by simp [results, Try.results35, go_sem, tnV]; try rw [hz]) rfl ⟨by first | rfl | rw [HT], ?_⟩
              first
                | exact hB
                | exact hB.drew
            · have HT : tnF s = (0, ⟨#[]⟩, 3) := by rw [← ht]; exact tn_zero s m k hk5 hks (by rw [← hb]; exact c3) (by omega)
              have hk0 : 0 < k := by omega
              subst c3
              have v0 : bits BinOp.or IntKind.i64 m (wrap64 0) = X := by simpa using v1
              have z0 : bits BinOp.and IntKind.u8 0 127 = 0 := by decide
              clear ht hb hX m0 m1 v1 a1 b0 b1 c1
              go_wp2
              all_goals refine bodyPost_ret (v := tnV (0, ⟨#[]⟩, 3)) (by simp [results, Try.results35, go_sem, tnV]) rfl ⟨by first | rfl | rw [HT], hB⟩
          · have HT : tnF s = (X, s.extract (k + 1) s.size, 0) := by rw [← ht, hX, hb]; exact tn_ok s m k hk5 hks (by rw [← hb]; omega) (by rw [← hb, ← hX]; exact c2) (by omega)
            clear ht hb hX m0 m1
            go_wp2
            try go_region
            go_wp2
            refine bodyPost_ret (v := tnV (X, s.extract (k + 1) s.size, 0)) (by simp [results, Try.results35, go_sem, tnV]; try rw [hz]) rfl ⟨by first | rfl | rw [HT], ?_⟩
            first
              | exact hB
              | exact hB.drew

set_option maxHeartbeats 2000000 in
theorem takeNum_long (s : ByteArray) (w : World) (hz : 5 < s.size) :
    Calls Try.prog 35 #[.string s] w fun e w' => e = .returned (tnV (tnF s)) ∧ Below w.heap.size w w' := by
  have hz' : (5 : Int) < (s.size : Int) := by omega
  go_enter Try.func35, Try.ntmps35
  go_wp2
  go_loopw [5, 10] (fun n i wr => ∃ k : Nat, ∃ m : Int, k ≤ 5 ∧ i = .int .i64 k ∧ n = .int .i64 m ∧ 0 ≤ m ∧ m < 128 ^ k ∧ tn s (5 - k) k m = tnF s ∧ Below w.heap.size w wr) (fun _ i _ => 5 - (intOf i).toNat)
  case atStart => exact ⟨0, 0, by omega, rfl, rfl, by omega, by decide, rfl, Below.refl _ _⟩
  case round =>
    obtain ⟨k, m, hk, rfl, rfl, m0, m1, ht, hB⟩ := hrel
    by_cases h8 : k = 5
    · subst h8
      have HT : tnF s = (0, ⟨#[]⟩, 3) := by rw [← ht]; rfl
      clear ht m0 m1
      rw [HT]
      go_wp2
      refine bodyPost_ret (v := tnV (0, ⟨#[]⟩, 3)) (by simp [results, Try.results35, go_sem, tnV]) rfl ⟨by first | rfl | rw [HT], hB⟩
    · have hks : k < s.size := by omega
      have hk5 : k < 5 := by omega
      have hkl : (k : Int) < 5 := by omega
      have hkz : (k : Int) < (s.size : Int) := by omega
      have g := bt_get s k hks
      obtain ⟨b, hb⟩ : ∃ b, b = bt s k := ⟨_, rfl⟩
      have b0 : 0 ≤ b := by rw [hb]; exact bt_lo _ _
      have b1 : b < 256 := by rw [hb]; exact bt_hi _ _
      rw [← hb] at g
      have a1 := and127 b b0 b1
      have v1 := val_step m b k hk5 m0 m1 b0
      obtain ⟨X, hX⟩ : ∃ X, X = m + b % 128 * 128 ^ k := ⟨_, rfl⟩
      rw [← hX] at v1
      by_cases c1 : 128 ≤ b
      · have x := next_step m b k hk5 m0 m1
        rw [← hX] at x
        have HT : tn s (5 - (k + 1)) (k + 1) X = tnF s := by rw [← ht, hX, hb]; exact (tn_next s m k hk5 hks (by rw [← hb]; exact c1)).symm
        clear ht hb hX m0 m1
        have HH := Lib.hid HT
        clear HT
        go_wp2
        exact ⟨⟨k + 1, X, by omega, by simp, rfl, x.1, x.2, HH.out, hB⟩, by simp [intOf]; omega⟩
      · by_cases c2 : 2147483647 < X
        · have HT : tnF s = (0, ⟨#[]⟩, 3) := by rw [← ht]; exact tn_big s m k hk5 hks (by rw [← hb]; omega) (by rw [← hb, ← hX]; exact c2)
          clear ht hb hX m0 m1
          rw [HT]
          go_wp2
          all_goals refine bodyPost_ret (v := tnV (0, ⟨#[]⟩, 3)) (by simp [results, Try.results35, go_sem, tnV]) rfl ⟨by first | rfl | rw [HT], hB⟩
        · by_cases c3 : b = 0
          · by_cases c4 : k = 0
            · have HT : tnF s = (X, s.extract (k + 1) s.size, 0) := by rw [← ht, hX, hb]; exact tn_ok s m k hk5 hks (by rw [← hb]; omega) (by rw [← hb, ← hX]; exact c2) (by omega)
              subst c4
              subst c3
              have hm0 : m = 0 := by simp at m1; omega
              subst hm0
              have hX0 : X = 0 := by simp at hX; exact hX
              subst hX0
              clear ht hb hX m0 m1 v1 a1 b0 b1 c1 c2
              have z0 : bits BinOp.and IntKind.u8 0 127 = 0 := by decide
              have z2 : bits BinOp.or IntKind.i64 0 0 = 0 := by decide
              go_wp2
              try go_region
              go_wp2
              refine bodyPost_ret (v := tnV (0, s.extract 1 s.size, 0)) (by simp [results, Try.results35, go_sem, tnV]; try rw [hz]) rfl ⟨by first | rfl | rw [HT], ?_⟩
              first
                | exact hB
                | exact hB.drew
            · have HT : tnF s = (0, ⟨#[]⟩, 3) := by rw [← ht]; exact tn_zero s m k hk5 hks (by rw [← hb]; exact c3) (by omega)
              have hk0 : 0 < k := by omega
              subst c3
              have v0 : bits BinOp.or IntKind.i64 m (wrap64 0) = X := by simpa using v1
              have z0 : bits BinOp.and IntKind.u8 0 127 = 0 := by decide
              clear ht hb hX m0 m1 v1 a1 b0 b1 c1
              go_wp2
              all_goals refine bodyPost_ret (v := tnV (0, ⟨#[]⟩, 3)) (by simp [results, Try.results35, go_sem, tnV]) rfl ⟨by first | rfl | rw [HT], hB⟩
          · have HT : tnF s = (X, s.extract (k + 1) s.size, 0) := by rw [← ht, hX, hb]; exact tn_ok s m k hk5 hks (by rw [← hb]; omega) (by rw [← hb, ← hX]; exact c2) (by omega)
            clear ht hb hX m0 m1
            go_wp2
            try go_region
            go_wp2
            refine bodyPost_ret (v := tnV (X, s.extract (k + 1) s.size, 0)) (by simp [results, Try.results35, go_sem, tnV]; try rw [hz]) rfl ⟨by first | rfl | rw [HT], ?_⟩
            first
              | exact hB
              | exact hB.drew

set_option maxHeartbeats 2000000 in
theorem takeNum_five (s : ByteArray) (w : World) (hz : s.size = 5) :
    Calls Try.prog 35 #[.string s] w fun e w' => e = .returned (tnV (tnF s)) ∧ Below w.heap.size w w' := by
  have hz' : (s.size : Int) = 5 := by omega
  go_enter Try.func35, Try.ntmps35
  go_wp2
  go_loopw [5, 10] (fun n i wr => ∃ k : Nat, ∃ m : Int, k ≤ 5 ∧ i = .int .i64 k ∧ n = .int .i64 m ∧ 0 ≤ m ∧ m < 128 ^ k ∧ tn s (5 - k) k m = tnF s ∧ Below w.heap.size w wr) (fun _ i _ => 5 - (intOf i).toNat)
  case atStart => exact ⟨0, 0, by omega, rfl, rfl, by omega, by decide, rfl, Below.refl _ _⟩
  case round =>
    obtain ⟨k, m, hk, rfl, rfl, m0, m1, ht, hB⟩ := hrel
    by_cases h8 : k = 5
    · subst h8
      have HT : tnF s = (0, ⟨#[]⟩, 3) := by rw [← ht]; rfl
      clear ht m0 m1
      rw [HT]
      go_wp2
      refine bodyPost_ret (v := tnV (0, ⟨#[]⟩, 3)) (by simp [results, Try.results35, go_sem, tnV]) rfl ⟨by first | rfl | rw [HT], hB⟩
    · have hks : k < s.size := by omega
      have hk5 : k < 5 := by omega
      have hkl : (k : Int) < 5 := by omega
      have hkz : (k : Int) < (s.size : Int) := by omega
      have g := bt_get s k hks
      obtain ⟨b, hb⟩ : ∃ b, b = bt s k := ⟨_, rfl⟩
      have b0 : 0 ≤ b := by rw [hb]; exact bt_lo _ _
      have b1 : b < 256 := by rw [hb]; exact bt_hi _ _
      rw [← hb] at g
      have a1 := and127 b b0 b1
      have v1 := val_step m b k hk5 m0 m1 b0
      obtain ⟨X, hX⟩ : ∃ X, X = m + b % 128 * 128 ^ k := ⟨_, rfl⟩
      rw [← hX] at v1
      by_cases c1 : 128 ≤ b
      · have x := next_step m b k hk5 m0 m1
        rw [← hX] at x
        have HT : tn s (5 - (k + 1)) (k + 1) X = tnF s := by rw [← ht, hX, hb]; exact (tn_next s m k hk5 hks (by rw [← hb]; exact c1)).symm
        clear ht hb hX m0 m1
        have HH := Lib.hid HT
        clear HT
        go_wp2
        exact ⟨⟨k + 1, X, by omega, by simp, rfl, x.1, x.2, HH.out, hB⟩, by simp [intOf]; omega⟩
      · by_cases c2 : 2147483647 < X
        · have HT : tnF s = (0, ⟨#[]⟩, 3) := by rw [← ht]; exact tn_big s m k hk5 hks (by rw [← hb]; omega) (by rw [← hb, ← hX]; exact c2)
          clear ht hb hX m0 m1
          rw [HT]
          go_wp2
          all_goals refine bodyPost_ret (v := tnV (0, ⟨#[]⟩, 3)) (by simp [results, Try.results35, go_sem, tnV]) rfl ⟨by first | rfl | rw [HT], hB⟩
        · by_cases c3 : b = 0
          · by_cases c4 : k = 0
            · have HT : tnF s = (X, s.extract (k + 1) s.size, 0) := by rw [← ht, hX, hb]; exact tn_ok s m k hk5 hks (by rw [← hb]; omega) (by rw [← hb, ← hX]; exact c2) (by omega)
              subst c4
              subst c3
              have hm0 : m = 0 := by simp at m1; omega
              subst hm0
              have hX0 : X = 0 := by simp at hX; exact hX
              subst hX0
              clear ht hb hX m0 m1 v1 a1 b0 b1 c1 c2
              have z0 : bits BinOp.and IntKind.u8 0 127 = 0 := by decide
              have z2 : bits BinOp.or IntKind.i64 0 0 = 0 := by decide
              go_wp2
              try go_region
              go_wp2
              refine bodyPost_ret (v := tnV (0, s.extract 1 s.size, 0)) (by simp [results, Try.results35, go_sem, tnV]; try rw [hz]) rfl ⟨by first | rfl | rw [HT], ?_⟩
              first
                | exact hB
                | exact hB.drew
            · have HT : tnF s = (0, ⟨#[]⟩, 3) := by rw [← ht]; exact tn_zero s m k hk5 hks (by rw [← hb]; exact c3) (by omega)
              have hk0 : 0 < k := by omega
              subst c3
              have v0 : bits BinOp.or IntKind.i64 m (wrap64 0) = X := by simpa using v1
              have z0 : bits BinOp.and IntKind.u8 0 127 = 0 := by decide
              clear ht hb hX m0 m1 v1 a1 b0 b1 c1
              go_wp2
              all_goals refine bodyPost_ret (v := tnV (0, ⟨#[]⟩, 3)) (by simp [results, Try.results35, go_sem, tnV]) rfl ⟨by first | rfl | rw [HT], hB⟩
          · have HT : tnF s = (X, s.extract (k + 1) s.size, 0) := by rw [← ht, hX, hb]; exact tn_ok s m k hk5 hks (by rw [← hb]; omega) (by rw [← hb, ← hX]; exact c2) (by omega)
            clear ht hb hX m0 m1
            go_wp2
            try go_region
            go_wp2
            refine bodyPost_ret (v := tnV (X, s.extract (k + 1) s.size, 0)) (by simp [results, Try.results35, go_sem, tnV]; try rw [hz]) rfl ⟨by first | rfl | rw [HT], ?_⟩
            first
              | exact hB
              | exact hB.drew

theorem takeNum_any (s : ByteArray) (w : World) :
    Calls Try.prog 35 #[.string s] w fun e w' => e = .returned (tnV (tnF s)) ∧ Below w.heap.size w w' := by
  by_cases hz : s.size < 5
  · exact takeNum_short s w hz
  · by_cases h5 : s.size = 5
    · exact takeNum_five s w h5
    · exact takeNum_long s w (by omega)
end Go.Proofs.Yteiifcmdpoonmaa
