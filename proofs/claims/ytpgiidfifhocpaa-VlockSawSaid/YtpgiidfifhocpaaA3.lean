/- Contracts of the lock functions, whole. -/
import Derived.Test.YtpgiidfifhocpaaA2
namespace Go.Proofs.Ytpgiidfifhocpaa
set_option linter.unusedSimpArgs false
open Go.RowKit
set_option linter.unusedVariables false

/-- A store leaves every cell there that was there. -/
theorem iss (w : World) (p : Addr) (u : Value) (q : Addr) : ((w.setCell p u).cell? q).isSome = (w.cell? q).isSome := by
  by_cases h : p = q
  · subst h
    cases hq : w.cell? p with
    | some x => rw [World.cell?_setCell_same (h := hq)]; rfl
    | none =>
      simp only [World.setCell, World.cell?, Array.getElem?_modify, if_true] at hq ⊢
      cases hh : w.heap[p.block]? with
      | none => simp
      | some x => cases x <;> simp_all
  · rw [World.cell?_setCell_other (h := h)]
attribute [local go_sem] iss

/-- What a box of three cells held before a call that makes memory it holds behind it. -/
theorem keep3 {W w1 : World} (hb : Below W.heap.size W w1) (b : Nat) (x y z : Value) (h0 : W.cell? ⟨b, 0, none⟩ = some x) (h1 : W.cell? ⟨b, 1, none⟩ = some y) (h2 : W.cell? ⟨b, 2, none⟩ = some z)
    (f0 : W.frozen? ⟨b, 0, none⟩ = false) (f1 : W.frozen? ⟨b, 1, none⟩ = false) (f2 : W.frozen? ⟨b, 2, none⟩ = false) :
    w1.cell? ⟨b, 0, none⟩ = some x ∧ w1.cell? ⟨b, 1, none⟩ = some y ∧ w1.cell? ⟨b, 2, none⟩ = some z ∧ w1.frozen? ⟨b, 0, none⟩ = false ∧ w1.frozen? ⟨b, 1, none⟩ = false ∧ w1.frozen? ⟨b, 2, none⟩ = false := by
  have hlt : b < W.heap.size := by
    rcases Nat.lt_or_ge b W.heap.size with h | h
    · exact h
    · simp [World.cell?, Array.getElem?_eq_none h] at h0
  exact ⟨(hb.cell (p := ⟨b, 0, none⟩) hlt).trans h0, (hb.cell (p := ⟨b, 1, none⟩) hlt).trans h1, (hb.cell (p := ⟨b, 2, none⟩) hlt).trans h2, (hb.frozen (p := ⟨b, 0, none⟩) hlt).trans f0, (hb.frozen (p := ⟨b, 1, none⟩) hlt).trans f1, (hb.frozen (p := ⟨b, 2, none⟩) hlt).trans f2⟩

set_option maxHeartbeats 1000000 in
theorem free_any (v o : Int) (g : Bool) (who : Int) (w : World) (h0 : -9223372036854775808 ≤ v) :
    Calls Try.prog 10 #[.agg #[.int .i64 v, .int .i64 o, .bool g], .int .i64 who] w fun e w' => e = .returned (qv (freeF v o g who)) ∧ Below w.heap.size w w' := by
  go_enter Try.func10, Try.ntmps10
  go_wp2_with fail
  refine (give_free v o g who _ h0).mono ?_
  rintro e w1 ⟨rfl, hb⟩
  obtain ⟨d0, d1, d2, e0, e1, e2⟩ := keep3 hb (w.heap.size + 1) (.int .i64 0) (.int .i64 0) (.bool false) (by simp [go_sem]) (by simp [go_sem]) (by simp [go_sem]) (by simp [go_sem]) (by simp [go_sem]) (by simp [go_sem])
  go_wp2
  refine bodyPost_ret (v := qv (freeF v o g who)) (by simp [results, Try.results10, go_sem, d0, d1, d2]) rfl ⟨rfl, ((((((Below.refl _ _).alloc (Nat.le_refl _) _).alloc (by simp; try omega) _).trans (hb.mono (by simp; try omega))).setCell (by simp) _).setCell (by simp) _).setCell (by simp) _⟩

set_option maxHeartbeats 1000000 in
theorem bump_any (v o : Int) (g : Bool) (who : Int) (w : World) (h0 : -9223372036854775808 ≤ v) :
    Calls Try.prog 14 #[.agg #[.int .i64 v, .int .i64 o, .bool g], .int .i64 who] w fun e w' => e = .returned (qv (bumpF v o g who)) ∧ Below w.heap.size w w' := by
  go_enter Try.func14, Try.ntmps14
  go_wp2_with fail
  refine (give_bump v o g who _ h0).mono ?_
  rintro e w1 ⟨rfl, hb⟩
  obtain ⟨d0, d1, d2, e0, e1, e2⟩ := keep3 hb (w.heap.size + 1) (.int .i64 0) (.int .i64 0) (.bool false) (by simp [go_sem]) (by simp [go_sem]) (by simp [go_sem]) (by simp [go_sem]) (by simp [go_sem]) (by simp [go_sem])
  go_wp2
  refine bodyPost_ret (v := qv (bumpF v o g who)) (by simp [results, Try.results14, go_sem, d0, d1, d2]) rfl ⟨rfl, ((((((Below.refl _ _).alloc (Nat.le_refl _) _).alloc (by simp; try omega) _).trans (hb.mono (by simp; try omega))).setCell (by simp) _).setCell (by simp) _).setCell (by simp) _⟩

set_option maxHeartbeats 1000000 in
theorem retire_any (v o : Int) (g : Bool) (who : Int) (w : World) (h0 : -9223372036854775808 ≤ v) :
    Calls Try.prog 16 #[.agg #[.int .i64 v, .int .i64 o, .bool g], .int .i64 who] w fun e w' => e = .returned (qv (retireF v o g who)) ∧ Below w.heap.size w w' := by
  go_enter Try.func16, Try.ntmps16
  go_wp2_with fail
  refine (give_retire v o g who _ h0).mono ?_
  rintro e w1 ⟨rfl, hb⟩
  obtain ⟨d0, d1, d2, e0, e1, e2⟩ := keep3 hb (w.heap.size + 1) (.int .i64 0) (.int .i64 0) (.bool false) (by simp [go_sem]) (by simp [go_sem]) (by simp [go_sem]) (by simp [go_sem]) (by simp [go_sem]) (by simp [go_sem])
  go_wp2
  refine bodyPost_ret (v := qv (retireF v o g who)) (by simp [results, Try.results16, go_sem, d0, d1, d2]) rfl ⟨rfl, ((((((Below.refl _ _).alloc (Nat.le_refl _) _).alloc (by simp; try omega) _).trans (hb.mono (by simp; try omega))).setCell (by simp) _).setCell (by simp) _).setCell (by simp) _⟩

set_option maxHeartbeats 1000000 in
theorem rfree_any (v o : Int) (g : Bool) (who : Int) (w : World) (h0 : -9223372036854775808 ≤ v) :
    Calls Try.prog 11 #[.agg #[.int .i64 v, .int .i64 o, .bool g], .int .i64 who] w fun e w' => e = .returned (qv (freeF v o g who)) ∧ Below w.heap.size w w' := by
  by_cases h1 : who < 1
  · have h2 : True := trivial
    have e : freeF v o g who = (0, 0, false, 13) := by simp [freeF, no, h1]; try omega
    rw [e]; clear e
    go_enter Try.func11, Try.ntmps11
    go_wp2_with fail
    refine bodyPost_ret (v := qv (0, 0, false, 13)) (by simp [results, Try.results11, go_sem]) rfl ⟨rfl, ((Below.refl _ _).alloc (Nat.le_refl _) _).alloc (by simp; try omega) _⟩
  · by_cases h2 : o = who
    · have h3 : (who != o) = false := by simp [h2]
      have e : freeF v o g who = (v, 0, g, 0) := by simp [freeF, no, h1, h2]; try omega
      rw [e]; clear e h2
      go_enter Try.func11, Try.ntmps11
      go_wp2_with fail
      refine bodyPost_ret (v := qv (v, 0, g, 0)) (by simp [results, Try.results11, go_sem]) rfl ⟨rfl, ((Below.refl _ _).alloc (Nat.le_refl _) _).alloc (by simp; try omega) _⟩
    · have h3 : (who != o) = true := by simp; omega
      have e : freeF v o g who = (0, 0, false, 13) := by simp [freeF, no, h2]; try omega
      rw [e]; clear e h2
      go_enter Try.func11, Try.ntmps11
      go_wp2_with fail
      refine bodyPost_ret (v := qv (0, 0, false, 13)) (by simp [results, Try.results11, go_sem]) rfl ⟨rfl, ((Below.refl _ _).alloc (Nat.le_refl _) _).alloc (by simp; try omega) _⟩

set_option maxHeartbeats 1000000 in
theorem rbump_any (v o : Int) (g : Bool) (who : Int) (w : World) (h0 : -9223372036854775808 ≤ v) :
    Calls Try.prog 15 #[.agg #[.int .i64 v, .int .i64 o, .bool g], .int .i64 who] w fun e w' => e = .returned (qv (bumpF v o g who)) ∧ Below w.heap.size w w' := by
  by_cases h1 : who < 1
  · have h2 : True := trivial
    have e : bumpF v o g who = (0, 0, false, 13) := by simp [bumpF, no, h1]; try omega
    rw [e]; clear e
    go_enter Try.func15, Try.ntmps15
    go_wp2_with fail
    refine bodyPost_ret (v := qv (0, 0, false, 13)) (by simp [results, Try.results15, go_sem]) rfl ⟨rfl, ((Below.refl _ _).alloc (Nat.le_refl _) _).alloc (by simp; try omega) _⟩
  · by_cases h2 : o = who
    · have h3 : (who != o) = false := by simp [h2]
      by_cases h4 : 1099511627776 ≤ v
      · have h5 : True := trivial
        have e : bumpF v o g who = (0, 0, false, 4) := by simp [bumpF, no, h1, h2, h4]; try omega
        rw [e]; clear e h2
        go_enter Try.func15, Try.ntmps15
        go_wp2_with fail
        refine bodyPost_ret (v := qv (0, 0, false, 4)) (by simp [results, Try.results15, go_sem]) rfl ⟨rfl, ((Below.refl _ _).alloc (Nat.le_refl _) _).alloc (by simp; try omega) _⟩
      · have h5 : True := trivial
        have e : bumpF v o g who = (v + 1, 0, g, 0) := by simp [bumpF, no, h1, h2, h4]; try omega
        rw [e]; clear e h2
        go_enter Try.func15, Try.ntmps15
        go_wp2_with fail
        refine bodyPost_ret (v := qv (v + 1, 0, g, 0)) (by simp [results, Try.results15, go_sem]) rfl ⟨rfl, ((Below.refl _ _).alloc (Nat.le_refl _) _).alloc (by simp; try omega) _⟩
    · have h3 : (who != o) = true := by simp; omega
      have e : bumpF v o g who = (0, 0, false, 13) := by simp [bumpF, no, h2]; try omega
      rw [e]; clear e h2
      go_enter Try.func15, Try.ntmps15
      go_wp2_with fail
      refine bodyPost_ret (v := qv (0, 0, false, 13)) (by simp [results, Try.results15, go_sem]) rfl ⟨rfl, ((Below.refl _ _).alloc (Nat.le_refl _) _).alloc (by simp; try omega) _⟩

set_option maxHeartbeats 1000000 in
theorem rrenew_any (v o : Int) (g : Bool) (w : World) (h0 : -9223372036854775808 ≤ v) :
    Calls Try.prog 19 #[.agg #[.int .i64 v, .int .i64 o, .bool g]] w fun e w' => e = .returned (qv (renewF v o g)) ∧ Below w.heap.size w w' := by
  cases g
  · have h5 : True := trivial
    have e : renewF v o false = (0, 0, false, 15) := by simp [renewF, no]; try omega
    rw [e]; clear e
    go_enter Try.func19, Try.ntmps19
    go_wp2_with fail
    refine bodyPost_ret (v := qv (0, 0, false, 15)) (by simp [results, Try.results19, go_sem]) rfl ⟨rfl, ((Below.refl _ _).alloc (Nat.le_refl _) _).alloc (by simp; try omega) _⟩
  · by_cases h4 : 1099511627776 ≤ v
    · have h5 : True := trivial
      have e : renewF v o true = (0, 0, false, 4) := by simp [renewF, no, h4]; try omega
      rw [e]; clear e
      go_enter Try.func19, Try.ntmps19
      go_wp2_with fail
      refine bodyPost_ret (v := qv (0, 0, false, 4)) (by simp [results, Try.results19, go_sem]) rfl ⟨rfl, ((Below.refl _ _).alloc (Nat.le_refl _) _).alloc (by simp; try omega) _⟩
    · have h5 : True := trivial
      have e : renewF v o true = (v + 1, 0, false, 0) := by simp [renewF, no, h4]; try omega
      rw [e]; clear e
      go_enter Try.func19, Try.ntmps19
      go_wp2_with fail
      refine bodyPost_ret (v := qv (v + 1, 0, false, 0)) (by simp [results, Try.results19, go_sem]) rfl ⟨rfl, ((Below.refl _ _).alloc (Nat.le_refl _) _).alloc (by simp; try omega) _⟩

end Go.Proofs.Ytpgiidfifhocpaa
