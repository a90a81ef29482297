/- The answer package's TakeNum: its walk. -/
import Derived.Test.YteiifcmdpoonmaaX1
import Derived.Test.YteiifcmdpoonmaaL0
namespace Go.Proofs.Yteiifcmdpoonmaa
set_option linter.unusedSimpArgs false
open Go.RowKit
set_option linter.unusedVariables false

def nx (s : ByteArray) (e j : Nat) : Int := if j = e then 0 else vf s (e - (j + 1)) (j + 1)
theorem nx_rng (s : ByteArray) (e j : Nat) (he : e < 5) (hj : j ≤ e) : 0 ≤ nx s e j ∧ nx s e j < 268435456 := by
  unfold nx
  split
  · omega
  · refine ⟨vf_lo _ _ _, Int.lt_of_lt_of_le (vf_hi _ _ _) ?_⟩
    rcases (by omega : e - (j + 1) = 0 ∨ e - (j + 1) = 1 ∨ e - (j + 1) = 2 ∨ e - (j + 1) = 3) with h | h | h | h <;> rw [h] <;> decide
theorem nx_step (s : ByteArray) (e j : Nat) (hj : j ≤ e) : nx s e j * 128 + bt s j % 128 = vf s (e - j) j := by
  unfold nx
  split
  · subst_vars; simp [vf]
  · rw [show e - j = (e - (j + 1)) + 1 by omega]; simp only [vf]; omega
theorem nx_next (s : ByteArray) (e j : Nat) (hj : j < e) : vf s (e - (j + 1)) (j + 1) = nx s e j := by
  unfold nx; rw [if_neg (by omega)]

set_option maxRecDepth 100000 in
set_option maxHeartbeats 4000000 in
theorem rtakeNum_any (s : ByteArray) (w : World) :
    Calls Try.prog 22 #[.string s] w fun e w' => e = .returned (tnV (tnF s)) ∧ Below w.heap.size w w' := by
  go_enter Try.func22, Try.ntmps22
  go_wp2
  go_loopw [5] (fun i wr => ∃ k : Nat, k ≤ s.size ∧ k ≤ 5 ∧ i = .int .i64 k ∧ (∀ j, j < k → 128 ≤ bt s j) ∧ wr = w) (fun i _ => 5 - (intOf i).toNat)
  case atStart => exact ⟨0, by omega, by omega, rfl, fun j hj => by omega, rfl⟩
  case round =>
    obtain ⟨k, hk, hk5, rfl, hl, rfl⟩ := hrel
    by_cases c1 : k = 5
    · subst c1
      have HT := Lib.hid (tnF_full s hk hl)
      clear hl
      by_cases c0 : s.size = 5
      · have z : (s.size : Int) = 5 := by omega
        go_wp2
        refine bodyPost_ret (v := tnV (0, ⟨#[]⟩, 3)) (by simp [results, Try.results22, go_sem, tnV]) rfl ⟨by rw [HT.out], Below.refl _ _⟩
      · have z : (5 : Int) < (s.size : Int) := by omega
        go_wp2
        refine bodyPost_ret (v := tnV (0, ⟨#[]⟩, 3)) (by simp [results, Try.results22, go_sem, tnV]) rfl ⟨by rw [HT.out], Below.refl _ _⟩
    · by_cases c2 : k = s.size
      · subst c2
        have HT := Lib.hid (tnF_end s (by omega) hl)
        clear hl
        have z5 : ¬ ((s.size : Int) = 5) := by omega
        go_wp2
        refine bodyPost_ret (v := tnV (0, ⟨#[]⟩, 5)) (by simp [results, Try.results22, go_sem, tnV]) rfl ⟨by rw [HT.out], Below.refl _ _⟩
      · have hks : k < s.size := by omega
        have hks' : (k : Int) < (s.size : Int) := by omega
        have hk5' : (k : Int) < 5 := by omega
        have g := bt_get s k hks
        by_cases c3 : 128 ≤ bt s k
        · obtain ⟨b, hb⟩ : ∃ b, b = bt s k := ⟨_, rfl⟩
          have HH := Lib.hid hb
          rw [← hb] at g c3
          have HL := Lib.hid hl
          clear hl hb
          go_wp2
          refine ⟨⟨k + 1, by omega, by omega, by simp, fun j hj => ?_, trivial⟩, by simp [intOf]; omega⟩
          by_cases q : j = k
          · subst q; rw [← HH.out]; exact c3
          · exact HL.out j (by omega)
        · have g0 := bt_lo s k
          have hb : bt s k < 128 := by omega
          have HT0 := tnF_vf s k (by omega) hks hl hb
          obtain ⟨V, hV⟩ : ∃ V, V = vf s k 0 := ⟨_, rfl⟩
          have HN : Hid (numF V = s.extract 0 (k + 1) ∧ tnF s = (V, s.extract (k + 1) s.size, 0) ∨ numF V ≠ s.extract 0 (k + 1) ∧ tnF s = (0, ⟨#[]⟩, 3)) := by
            refine Lib.hid ?_
            rw [← hV] at HT0
            by_cases q : 2147483647 < V ∨ (bt s k = 0 ∧ 0 < k)
            · rw [if_pos q] at HT0
              refine .inr ⟨?_, HT0⟩
              rw [hV] at q ⊢
              exact num_nots s k (by omega) hks q
            · rw [if_neg q] at HT0
              refine .inl ⟨?_, HT0⟩
              rw [hV] at q ⊢
              exact num_back s k (by omega) hks hl hb q
          have HV := Lib.hid hV
          clear HT0 hl hV
          obtain ⟨b, hbb⟩ : ∃ b, b = bt s k := ⟨_, rfl⟩
          rw [← hbb] at g hb
          have HBB := Lib.hid hbb
          clear g0 hbb
          have hb' : ¬ 128 ≤ b := by omega
          go_wp2
          go_loopw [6, 7] (fun n i w2 => w2 = wr ∧ ((i = .int .i64 (-1) ∧ n = .int .i64 V) ∨ (∃ j : Nat, j ≤ k ∧ i = .int .i64 j ∧ n = .int .i64 (nx s k j)))) (fun _ i _ => (intOf i + 1).toNat)
          case atStart => exact ⟨rfl, .inr ⟨k, Nat.le_refl _, rfl, by simp [nx]⟩⟩
          case round =>
            obtain ⟨rfl, ⟨rfl, rfl⟩ | ⟨j, hj, rfl, rfl⟩⟩ := hrel
            · clear hb hb' g
              have C := rnum_any V
              have s1 : IntKind.i64.wrap ((k : Int) + 1) = (k : Int) + 1 := IntWalk.i64_in _ (by omega)
              have s2 : (0 : Int) ≤ (k : Int) + 1 := by omega
              have s3 : (k : Int) + 1 ≤ (s.size : Int) := by omega
              have s4 : ((k : Int) + 1).toNat = k + 1 := by omega
              have s5 : ¬ (s.size : Int) < (k : Int) + 1 := by omega
              have s6 : ¬ (k : Int) + 1 < 0 := by omega
              have s7 : k + 1 ≤ s.size := by omega
              rcases HN with ⟨a1, a2⟩ | ⟨a1, a2⟩
              · rw [a1] at C
                have A2 := Lib.hid a2
                have CC := Lib.hid C
                clear a1 a2 C
                go_wp2
                go_region_with (go_at_call 31; refine (CC.out _).mono ?_; rintro e w1 ⟨rfl, hB⟩)
                all_goals
                  go_wp2
                  try go_region
                  go_wp2
                  refine bodyPost_ret (v := tnV (V, s.extract (k + 1) s.size, 0)) (by simp [results, Try.results22, go_sem, tnV]) rfl ⟨by rw [A2.out], ?_⟩
                  first
                    | exact hB
                    | exact hB.drew
                    | exact ((Below.refl _ _).drew).trans hB
                    | exact (((Below.refl _ _).drew).trans hB).drew
              · obtain ⟨T, hT⟩ : ∃ T, T = numF V := ⟨_, rfl⟩
                rw [← hT] at C a1
                have A2 := Lib.hid a2
                have CC := Lib.hid C
                have E0 := bytes_ne a1
                clear a1 a2 C hT
                go_wp2
                go_region_with (go_at_call 31; refine (CC.out _).mono ?_; rintro e w1 ⟨rfl, hB⟩)
                all_goals
                  go_wp2
                  refine bodyPost_ret (v := tnV (0, ⟨#[]⟩, 3)) (by simp [results, Try.results22, go_sem, tnV]) rfl ⟨by rw [A2.out], ?_⟩
                  first
                    | exact hB
                    | exact ((Below.refl _ _).drew).trans hB
            · have hjs : j < s.size := by omega
              have gj := bt_get s j hjs
              have st := nx_step s k j hj
              have rg := nx_rng s k j (by omega) hj
              obtain ⟨c, hc⟩ : ∃ c, c = bt s j := ⟨_, rfl⟩
              have c0 : 0 ≤ c := by rw [hc]; exact bt_lo _ _
              have c1 : c < 256 := by rw [hc]; exact bt_hi _ _
              rw [← hc] at gj st
              obtain ⟨x, hx⟩ : ∃ x, x = nx s k j := ⟨_, rfl⟩
              rw [← hx] at rg st ⊢
              obtain ⟨r0, r1⟩ := rg
              have ST := Lib.hid st
              clear hc hx st hb hb' g
              have hj0 : (0 : Int) ≤ (j : Int) := by omega
              have hjl : (j : Int) < (s.size : Int) := by omega
              go_wp2
              by_cases z : j = 0
              · subst z
                refine ⟨⟨trivial, .inl ⟨by simp, ?_⟩⟩, by simp [intOf]⟩
                have := ST.out
                simp only [Nat.sub_zero] at this
                rw [this, ← HV.out]
              · obtain ⟨i, rfl⟩ : ∃ i, j = i + 1 := ⟨j - 1, by omega⟩
                refine ⟨⟨trivial, .inr ⟨i, by omega, by simp, ?_⟩⟩, by simp [intOf]; omega⟩
                rw [ST.out, nx_next s k i (by omega)]
end Go.Proofs.Yteiifcmdpoonmaa
