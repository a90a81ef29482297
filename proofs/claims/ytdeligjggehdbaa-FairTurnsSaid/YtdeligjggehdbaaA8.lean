/- Two rows alike; everybody, again and again. -/
import Derived.Test.YtdeligjggehdbaaA7
import Derived.Laws.MakeOwn
namespace Go.Proofs.Ytdeligjggehdbaa
set_option linter.unusedSimpArgs false
open Go.RowKit Go.Maps
set_option linter.unusedVariables false

theorem same_pre {l m : List Int} {k : Nat} (hk : k < l.length) (hm : k < m.length) (h : l.take k = m.take k) : l.take (k + 1) = m.take (k + 1) ↔ l.getD k 0 = m.getD k 0 := by
  rw [take_step hk, take_step hm, h]
  simp
set_option maxHeartbeats 1000000 in
theorem same_any (A1 A2 : Option Addr) (n1 c1 n2 c2 : Nat) (l m : List Int) (w : World) (hl : l.length = n1) (hm : m.length = n2) (h1 : n1 ≤ 1000000000) (h2 : n2 ≤ 1000000000) (hA : RdI w A1 l) (hB : RdI w A2 m) :
    Calls Try.prog 13 #[.slice A1 n1 c1, .slice A2 n2 c2] w fun e w' => e = .returned (.bool (decide (l = m))) ∧ ∃ k, w' = w.drewN k := by
  have HL := Lib.hid hl
  have HM := Lib.hid hm
  have HA := Lib.hid hA
  have HB := Lib.hid hB
  clear hl hm hA hB
  obtain ⟨r, hr⟩ : ∃ r, r = decide (l = m) := ⟨_, rfl⟩
  rw [← hr]
  have hr' : r = true ↔ l = m := by rw [hr, decide_eq_true_eq]
  have HR := Lib.hid hr'
  clear hr hr'
  by_cases hne : n1 = n2
  · subst hne
    go_enter Try.func13, Try.ntmps13
    go_wp2
    go_loopw [5] (fun iv wr => ∃ k d : Nat, k ≤ n1 ∧ iv = .int .i64 k ∧ l.take k = m.take k ∧ wr = w.drewN d) (fun i _ => n1 - (intOf i).toNat)
    case atStart => exact ⟨0, 0, by omega, rfl, rfl, rfl⟩
    case round =>
      obtain ⟨k, d, hk, rfl, ht, hwr⟩ := hrel
      have HT := Lib.hid ht
      have HW := Lib.hid hwr
      clear ht hwr
      by_cases h8 : k = n1
      · have hkn : ¬ (k : Int) < (n1 : Int) := by omega
        have hr2 : Hid (r = true) := Lib.hid (HR.out.2 (by have := HT.out; rw [h8] at this; rw [← HL.out, List.take_length, HL.out, ← HM.out, List.take_length] at this; exact this))
        go_wp2
        go_ret
        exact ⟨retB_eq hr2.out, d, HW.out⟩
      · have hkn : k < n1 := by omega
        have hk1 : (k : Int) < (n1 : Int) := by omega
        have hk0 : (0 : Int) ≤ (k : Int) := by omega
        have hkl : k < l.length := by rw [HL.out]; exact hkn
        have hkm : k < m.length := by rw [HM.out]; exact hkn
        obtain ⟨b, off, rfl, hlt, g⟩ := rdi_get HA.out hkl
        obtain ⟨b2, off2, rfl, hlt2, g2⟩ := rdi_get HB.out hkm
        have HP := Lib.hid (same_pre hkl hkm HT.out)
        obtain ⟨x, hx⟩ : ∃ x, x = l.getD k 0 := ⟨_, rfl⟩
        obtain ⟨y, hy⟩ : ∃ y, y = m.getD k 0 := ⟨_, rfl⟩
        rw [← hx] at g HP
        rw [← hy] at g2 HP
        have f1 : wr.cell? ⟨b, off + k, none⟩ = some (.int .i64 x) := by rw [HW.out]; exact g
        have f2 : wr.cell? ⟨b2, off2 + k, none⟩ = some (.int .i64 y) := by rw [HW.out]; exact g2
        have HX := Lib.hid hx
        have HY := Lib.hid hy
        clear g g2 hx hy
        by_cases he : x = y
        · subst he
          have hn := Lib.hid (HP.out.2 rfl)
          go_wp2_with fail
          go_quiet (fail)
          go_wp2
          exact ⟨⟨k + 1, d + nq, by omega, by simp, hn.out, by rw [HW.out, World.drewN_drewN]⟩, by simp [intOf]; omega⟩
        · have hr2 : Hid (r = false) := Lib.hid (by
            have : ¬ r = true := fun h => he (by have e := HR.out.1 h; rw [HX.out, HY.out, e])
            simpa using this)
          go_wp2_with fail
          go_quiet (fail)
          go_wp2
          go_ret
          exact ⟨retB_eq hr2.out, d + nq, by rw [HW.out, World.drewN_drewN]⟩
  · have hne2 : ¬ (n1 : Int) = (n2 : Int) := by omega
    have hr2 : Hid (r = false) := Lib.hid (by
      have : ¬ r = true := fun h => hne (by have e := HR.out.1 h; rw [← HL.out, ← HM.out, e])
      simpa using this)
    go_enter Try.func13, Try.ntmps13
    go_wp2
    go_ret
    exact ⟨retB_eq hr2.out, 0, rfl⟩

def repF (q : List Int) : Nat → List Int
  | 0 => []
  | k + 1 => repF q k ++ q
theorem rep_len (q : List Int) : ∀ k, (repF q k).length = k * q.length
  | 0 => by simp [repF]
  | k + 1 => by simp [repF, rep_len q k, Nat.add_mul]
theorem rep_nil : ∀ k, repF [] k = []
  | 0 => rfl
  | k + 1 => by simp [repF, rep_nil k]
/-- What rounds are answered. -/
def RPost (w : World) (l : List Int) (e : Ending) (w' : World) : Prop := ∃ v, e = .returned v ∧ w'.ownsRow w.heap.size 3 1 v l.length (l.map (Value.int .i64)) ∧ Below w.heap.size w w'
theorem rounds_no (A : Option Addr) (n2 c2 : Nat) (n : Int) (w : World) (h : n2 = 0 ∨ n < 1) : Calls Try.prog 14 #[.slice A n2 c2, .int .i64 n] w (RPost w []) := by
  rcases Nat.eq_zero_or_pos n2 with h0 | h0
  · subst h0
    clear h
    go_enter Try.func14, Try.ntmps14
    go_wp2
    exact bodyPost_ret (v := .slice none 0 0) (by simp [results, Try.results14, go_sem]) rfl ⟨_, rfl, World.ownsRow_nil _ _ _ _, Below.refl _ _⟩
  · have hn : n < 1 := by omega
    have hn2 : ¬ (n2 : Int) = 0 := by omega
    clear h
    go_enter Try.func14, Try.ntmps14
    go_wp2
    all_goals exact bodyPost_ret (v := .slice none 0 0) (by simp [results, Try.results14, go_sem]) rfl ⟨_, rfl, World.ownsRow_nil _ _ _ _, Below.refl _ _⟩
set_option maxHeartbeats 1000000 in
theorem rounds_yes (A : Option Addr) (n2 c2 N : Nat) (q : List Int) (w : World) (hq : q.length = n2) (h1 : 1 ≤ n2) (h2 : n2 ≤ 60) (hN : 1 ≤ N) (hN2 : N ≤ 100) (hB : RdI w A q) :
    Calls Try.prog 14 #[.slice A n2 c2, .int .i64 N] w (RPost w (repF q N)) := by
  have HQ := Lib.hid hq
  have HB := Lib.hid hB
  clear hq hB
  have hprod : N * n2 ≤ 6000 := Nat.mul_le_mul hN2 h2
  have hn2 : ¬ (n2 : Int) = 0 := by omega
  have hn3 : ¬ (N : Int) < 1 := by omega
  have hdiv : (35791394 : Int) ≤ 2147483647 / (n2 : Int) := by rw [Int.le_ediv_iff_mul_le (by omega)]; omega
  have hmin : ¬ 2147483647 / (n2 : Int) < (N : Int) := by omega
  have hmul : IntKind.i64.wrap ((N : Int) * (n2 : Int)) = ((N * n2 : Nat) : Int) := by rw [← Int.natCast_mul]; exact IntWalk.i64_in _ (by omega)
  obtain ⟨i0, hI0, hI1, hI2, hI3⟩ := info_parts info3
  obtain ⟨w0, hr, hown, hg⟩ := run_make_own (P := Try.prog) w w.heap.size 22 3 i0 (.int .i64 0) 1 Try.underlying22 hI0 hI1 hI2 .i64 .i64 (N * n2) (by rw [hI3]; omega) (by unfold maxLen; omega) (Nat.le_refl _)
  have HOWN := Lib.hid hown
  have HG := Lib.hid hg
  clear hown hg
  rw [Int.natCast_mul] at hr hmul
  go_enter Try.func14, Try.ntmps14
  go_wp2
  go_loopw [5, 24] (fun vv iv wv => ∃ k : Nat, k ≤ N ∧ iv = .int .i64 k ∧ wv.ownsRow w.heap.size 3 1 vv (k * n2) ((repF q k).map (Value.int .i64)) ∧ Below w.heap.size w wv) (fun _ i _ => N - (intOf i).toNat)
  case atStart => exact ⟨0, by omega, rfl, by simpa [repF] using HOWN.out, (Below.refl _ _).grown HG.out (Nat.le_refl _) (fun j hj => by cases hj)⟩
  case round =>
    obtain ⟨k, hk, rfl, hrow, hbw⟩ := hrel
    have HROW := Lib.hid hrow
    have HBW := Lib.hid hbw
    clear hrow hbw
    by_cases h8 : k = N
    · have hkn : ¬ (k : Int) < (N : Int) := by omega
      have hlen := rep_len q N
      rw [HQ.out] at hlen
      have HR2 : Hid (wr.ownsRow w.heap.size 3 1 u5 (repF q N).length ((repF q N).map (Value.int .i64))) := Lib.hid (by rw [hlen, ← h8]; exact HROW.out)
      clear hlen
      go_wp2
      exact bodyPost_ret (v := u5) (by simp [results, Try.results14, go_sem]) rfl ⟨u5, rfl, HR2.out, HBW.out⟩
    · have hkn : k < N := by omega
      have hk1 : (k : Int) < (N : Int) := by omega
      have hk0 : (0 : Int) ≤ (k : Int) := by omega
      have hkm : k * n2 ≤ 6000 := Nat.mul_le_mul (Nat.le_trans hk hN2) h2
      obtain ⟨b, off, rfl, hlt, g⟩ := rdi_get (HB.out.later HBW.out) (k := 0) (by rw [HQ.out]; omega)
      have HRD := Lib.hid (HB.out.later HBW.out)
      clear g
      go_wp2_with (first
        | (at_builtin; refine wpList_append_lies _ rfl (.tmp 26) (.tmp 27) 22 rfl w.heap.size 3 i0 (.int .i64 0) 1 8 Try.underlying22 hI0 hI1 hI2 hI3 rfl (by decide) u5 (k * n2) ((repF q k).map (Value.int .i64)) rfl HROW.out ⟨b, off, none⟩ n2 c2 (q.map (Value.int .i64)) rfl (by rw [List.length_map, HQ.out, Nat.mul_one]) (rdi_news HRD.out) (one_ints _) (by omega) (by unfold maxLen; omega) (by omega) HBW.out.size wr.heap.size rfl ?_; intro g1 cap1 w2 hin hg2 hloc hlt2)
        | fail)
      have hin' : w2.ownsRow w.heap.size 3 1 (.slice (some ⟨g1, 0, none⟩) (k * n2 + n2) cap1) ((k + 1) * n2) ((repF q (k + 1)).map (Value.int .i64)) := by rw [Nat.add_mul, Nat.one_mul, repF, List.map_append]; exact hin
      exact ⟨⟨k + 1, by omega, by simp, hin', HBW.out.grown hg2 HBW.out.size (fun j hj => (HROW.out.lt j hj).1)⟩, by simp [intOf]; omega⟩
end Go.Proofs.Ytdeligjggehdbaa
