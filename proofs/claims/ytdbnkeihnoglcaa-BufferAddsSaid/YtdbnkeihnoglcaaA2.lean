/- Contracts of the key functions: what two ranges have in common. -/
import Derived.Test.YtdbnkeihnoglcaaA1
import Derived.Deep.RegionHeld3
namespace Go.Proofs.Ytdbnkeihnoglcaa
set_option linter.unusedSimpArgs false
open Go.RowKit
set_option linter.unusedVariables false

theorem bcell {W w1 : World} (hb : Below W.heap.size W w1) : (∀ b o, b < W.heap.size → w1.cell? ⟨b, o, none⟩ = W.cell? ⟨b, o, none⟩) ∧ (∀ b o, b < W.heap.size → w1.frozen? ⟨b, o, none⟩ = W.frozen? ⟨b, o, none⟩) :=
  ⟨fun b o h => hb.cell (p := ⟨b, o, none⟩) h, fun b o h => hb.frozen (p := ⟨b, o, none⟩) h⟩

def maxS (a b : ByteArray) : ByteArray := if lt a b then b else a
/-- The builtin max of two texts. -/
theorem run_max_str (ts : Array TypeId) (t : TypeId) (x y : ByteArray) {P : Program} (w : World) : (Builtin.max_ ts t #[.string x, .string y]).run P w = .ok (.string (maxS x y)) w := by
  simp [Builtin.max_, Builtin.max2, Op.stringOp, asBool, maxS, lt]
  by_cases h : Op.bytesLess x.toList y.toList = true
  · simp [h]
  · simp [h]
attribute [local go_sem] run_max_str

/-- A world under a name of its own, ahead of a call; ahead of a piece of code. -/
theorem at_world {P : Program} {f : Nat} {args : Array Value} {W : World} {Q : Ending → World → Prop} (h : ∀ W2, W2 = W → Calls P f args W2 Q) : Calls P f args W Q := h W rfl
theorem at_code {P : Program} {c : Code} {Q : Exit → Act → World → Prop} {a : Act} {W : World} (h : ∀ W2, W2 = W → Code.wp P c Q a W2) : Code.wp P c Q a W := h W rfl

/-- What a box of two cells held before a call that makes memory it holds behind it. -/
theorem keep2 {W w1 : World} (hb : Below W.heap.size W w1) (b : Nat) (x y : Value) (h0 : W.cell? ⟨b, 0, none⟩ = some x) (h1 : W.cell? ⟨b, 1, none⟩ = some y)
    (f0 : W.frozen? ⟨b, 0, none⟩ = false) (f1 : W.frozen? ⟨b, 1, none⟩ = false) :
    w1.cell? ⟨b, 0, none⟩ = some x ∧ w1.cell? ⟨b, 1, none⟩ = some y ∧ w1.frozen? ⟨b, 0, none⟩ = false ∧ w1.frozen? ⟨b, 1, none⟩ = false := by
  have hlt : b < W.heap.size := World.block_lt_of_cell? W _ h0
  exact ⟨(hb.cell (p := ⟨b, 0, none⟩) hlt).trans h0, (hb.cell (p := ⟨b, 1, none⟩) hlt).trans h1, (hb.frozen (p := ⟨b, 0, none⟩) hlt).trans f0, (hb.frozen (p := ⟨b, 1, none⟩) hlt).trans f1⟩

abbrev rgc (a b : ByteArray) : Obj := .cells #[.string a, .string b] 24

set_option maxHeartbeats 400000 in
theorem rightRange_at (a b : ByteArray) (w : World) :
    Calls Try.prog 35 #[.agg #[.string a, .string b]] w fun e w' => e = .returned (.bool (sb a b)) ∧ w' = w.alloc (rgc a b) := by
  go_enter Try.func35, Try.ntmps35
  go_wp2_with (go_at_call 57; refine (sb_any _ _ _).mono ?_; rintro e w' ⟨rfl, rfl⟩)
  all_goals
    go_ret
    exact ⟨rfl, rfl⟩
set_option maxHeartbeats 400000 in
theorem rright_at (a b : ByteArray) (w : World) :
    Calls Try.prog 28 #[.agg #[.string a, .string b]] w fun e w' => e = .returned (.bool (sb a b)) ∧ w' = w.alloc (rgc a b) := by
  go_enter Try.func28, Try.ntmps28
  go_wp2
  all_goals
    go_ret
    refine ⟨?_, rfl⟩
    simp_all [sb, emp, lt]
    try (have := bl_le b.toList a.toList; have e : (b.toList == a.toList) = (b.toList == a.toList) := rfl; cases h1 : Op.bytesLess b.toList a.toList <;> cases h2 : (b.toList == a.toList) <;> simp_all)

abbrev emptyS : ByteArray := ⟨#[]⟩
def meetE (a0 a1 b0 b1 : ByteArray) : ByteArray × ByteArray × Bool := if sb (maxS a0 b0) (firstS a1 b1) = true then (maxS a0 b0, firstS a1 b1, true) else (emptyS, emptyS, false)
def meetF (a0 a1 b0 b1 : ByteArray) : ByteArray × ByteArray × Bool :=
  if sb a0 a1 = true ∧ sb b0 b1 = true then
    if a0.toList = b0.toList ∧ a1.toList = b1.toList then (a0, a1, true)
    else meetE a0 a1 b0 b1
  else (emptyS, emptyS, false)
abbrev mv (r : ByteArray × ByteArray × Bool) : Value := .tuple #[.agg #[.string r.1, .string r.2.1], .bool r.2.2]

set_option maxHeartbeats 1000000 in
theorem meet_no (a0 a1 b0 b1 : ByteArray) (w : World) (h : ¬ (sb a0 a1 = true ∧ sb b0 b1 = true)) :
    Calls Try.prog 64 #[.agg #[.string a0, .string a1], .agg #[.string b0, .string b1]] w fun e w' => e = .returned (mv (emptyS, emptyS, false)) ∧ Below w.heap.size w w' := by
  by_cases h1 : sb a0 a1 = true
  · have h2 : sb b0 b1 = false := by simpa [h1] using h
    clear h
    go_enter Try.func64, Try.ntmps64
    go_wp2_with (first | (go_at_call 35; refine (rightRange_at _ _ _).mono ?_; rintro e w' ⟨rfl, rfl⟩) | (go_at_call 72; refine (first_any _ _ _).mono ?_; rintro e w' ⟨rfl, rfl⟩))
    refine bodyPost_ret (v := mv (emptyS, emptyS, false)) (by simp [results, Try.results64, go_sem]) rfl ⟨rfl, (((((Below.refl _ _).alloc (Nat.le_refl _) _).alloc (by simp; try omega) _).alloc (by simp; try omega) _).alloc (by simp; try omega) _).alloc (by simp; try omega) _⟩
  · have h2 : sb a0 a1 = false := by simpa using h1
    clear h h1
    go_enter Try.func64, Try.ntmps64
    go_wp2_with (first | (go_at_call 35; refine (rightRange_at _ _ _).mono ?_; rintro e w' ⟨rfl, rfl⟩) | (go_at_call 72; refine (first_any _ _ _).mono ?_; rintro e w' ⟨rfl, rfl⟩))
    refine bodyPost_ret (v := mv (emptyS, emptyS, false)) (by simp [results, Try.results64, go_sem]) rfl ⟨rfl, ((((Below.refl _ _).alloc (Nat.le_refl _) _).alloc (by simp; try omega) _).alloc (by simp; try omega) _).alloc (by simp; try omega) _⟩

set_option maxHeartbeats 1000000 in
theorem meet_same (a0 a1 b0 b1 : ByteArray) (w : World) (h1 : sb a0 a1 = true) (h2 : sb b0 b1 = true) (h3 : a0.toList = b0.toList) (h4 : a1.toList = b1.toList) :
    Calls Try.prog 64 #[.agg #[.string a0, .string a1], .agg #[.string b0, .string b1]] w fun e w' => e = .returned (mv (a0, a1, true)) ∧ Below w.heap.size w w' := by
  go_enter Try.func64, Try.ntmps64
  go_wp2_with (first | (go_at_call 35; refine (rightRange_at _ _ _).mono ?_; rintro e w' ⟨rfl, rfl⟩) | (go_at_call 72; refine (first_any _ _ _).mono ?_; rintro e w' ⟨rfl, rfl⟩))
  refine bodyPost_ret (v := mv (a0, a1, true)) (by simp [results, Try.results64, go_sem]) rfl ⟨rfl, (((((Below.refl _ _).alloc (Nat.le_refl _) _).alloc (by simp; try omega) _).alloc (by simp; try omega) _).alloc (by simp; try omega) _).alloc (by simp; try omega) _⟩

set_option maxHeartbeats 1000000 in
theorem meet_else (a0 a1 b0 b1 : ByteArray) (w : World) (h1 : sb a0 a1 = true) (h2 : sb b0 b1 = true) (h3 : ¬ (a0.toList = b0.toList ∧ a1.toList = b1.toList)) :
    Calls Try.prog 64 #[.agg #[.string a0, .string a1], .agg #[.string b0, .string b1]] w fun e w' => e = .returned (mv (meetE a0 a1 b0 b1)) ∧ Below w.heap.size w w' := by
  have h34 : (¬ a0.toList = b0.toList) ∨ (a0.toList = b0.toList ∧ ¬ a1.toList = b1.toList) := by
    by_cases h : a0.toList = b0.toList
    · exact .inr ⟨h, fun k => h3 ⟨h, k⟩⟩
    · exact .inl h
  clear h3
  rcases h34 with h3 | ⟨h3, h4⟩
  all_goals
    go_enter Try.func64, Try.ntmps64
    go_wp2_with (first | (go_at_call 35; refine (rightRange_at _ _ _).mono ?_; rintro e w' ⟨rfl, rfl⟩) | (go_at_call 72; refine (first_any _ _ _).mono ?_; rintro e w' ⟨rfl, rfl⟩))
    refine at_code (fun W2 hW => ?_)
    have c0 : W2.cell? ⟨w.heap.size, 0, none⟩ = some (.string a0) := by rw [hW]; simp [go_sem]
    have c1 : W2.cell? ⟨w.heap.size, 1, none⟩ = some (.string a1) := by rw [hW]; simp [go_sem]
    have c2 : W2.cell? ⟨w.heap.size + 1, 0, none⟩ = some (.string b0) := by rw [hW]; simp [go_sem]
    have c3 : W2.cell? ⟨w.heap.size + 1, 1, none⟩ = some (.string b1) := by rw [hW]; simp [go_sem]
    have d0 : W2.cell? ⟨w.heap.size + 1 + 1, 0, none⟩ = some (.string emptyS) := by rw [hW]; simp [go_sem]
    have d1 : W2.cell? ⟨w.heap.size + 1 + 1, 1, none⟩ = some (.string emptyS) := by rw [hW]; simp [go_sem]
    have e0 : W2.frozen? ⟨w.heap.size + 1 + 1, 0, none⟩ = false := by rw [hW]; simp [go_sem]
    have e1 : W2.frozen? ⟨w.heap.size + 1 + 1, 1, none⟩ = false := by rw [hW]; simp [go_sem]
    have hB : Below w.heap.size w W2 := by rw [hW]; exact (((((Below.refl _ _).alloc (Nat.le_refl _) _).alloc (by simp; try omega) _).alloc (by simp; try omega) _).alloc (by simp; try omega) _).alloc (by simp; try omega) _
    clear hW h3
    try clear h4
    go_region_held3 (fun W => W.cell? ⟨w.heap.size, 0, none⟩ = some (.string a0) ∧ W.cell? ⟨w.heap.size, 1, none⟩ = some (.string a1) ∧ W.cell? ⟨w.heap.size + 1, 0, none⟩ = some (.string b0) ∧ W.cell? ⟨w.heap.size + 1, 1, none⟩ = some (.string b1)) (go_keep)
      (first | (go_at_call 72; refine (first_any _ _ _).mono ?_; rintro e w' ⟨rfl, rfl⟩))
    all_goals
      go_wp2_with fail
      refine (rightRange_any _ _ _).mono ?_
      rintro e w3 ⟨rfl, hb⟩
      have hb' : Below W2.heap.size W2 w3 := (((Below.refl _ _).alloc (Nat.le_refl _) _).drew).trans (hb.mono (by simp))
      obtain ⟨c0', c1', f0, f1⟩ := keep2 hb' _ _ _ d0 d1 e0 e1
      have g0 := cell_later hb (show ((W2.alloc (rgc (maxS a0 b0) (firstS a1 b1))).drew).cell? ⟨W2.heap.size, 0, none⟩ = some (.string (maxS a0 b0)) by simp [go_sem])
      have g1 := cell_later hb (show ((W2.alloc (rgc (maxS a0 b0) (firstS a1 b1))).drew).cell? ⟨W2.heap.size, 1, none⟩ = some (.string (firstS a1 b1)) by simp [go_sem])
      have hB' : Below w.heap.size w w3 := hB.trans (hb'.mono hB.size)
      clear hb hb' hB d0 d1 e0 e1 c0 c1 c2 c3
      cases h5 : sb (maxS a0 b0) (firstS a1 b1)
      · go_wp2_with fail
        refine bodyPost_ret (v := mv (emptyS, emptyS, false)) (by simp [results, Try.results64, go_sem, c0', c1']) rfl ⟨by simp [meetE, h5], (hB'.setCell (by simp; omega) _).setCell (by simp; omega) _⟩
      · go_wp2_with fail
        refine bodyPost_ret (v := mv (maxS a0 b0, firstS a1 b1, true)) (by simp [results, Try.results64, go_sem, c0', c1']) rfl ⟨by simp [meetE, h5], (hB'.setCell (by simp; omega) _).setCell (by simp; omega) _⟩

theorem meet_any (a0 a1 b0 b1 : ByteArray) (w : World) :
    Calls Try.prog 64 #[.agg #[.string a0, .string a1], .agg #[.string b0, .string b1]] w fun e w' => e = .returned (mv (meetF a0 a1 b0 b1)) ∧ Below w.heap.size w w' := by
  unfold meetF
  by_cases h : sb a0 a1 = true ∧ sb b0 b1 = true
  · rw [if_pos h]
    by_cases h3 : a0.toList = b0.toList ∧ a1.toList = b1.toList
    · rw [if_pos h3]; exact meet_same a0 a1 b0 b1 w h.1 h.2 h3.1 h3.2
    · rw [if_neg h3]; exact meet_else a0 a1 b0 b1 w h.1 h.2 h3
  · rw [if_neg h]; exact meet_no a0 a1 b0 b1 w h

end Go.Proofs.Ytdbnkeihnoglcaa
