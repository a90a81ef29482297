/- Texts of the proof, one behind the other. -/
import Derived.Test.YtelpkajlejbbgaaGreatDoorTk12
import Derived.Test.YtelpkajlejbbgaaGreatDoorTk03
import Derived.Test.YtelpkajlejbbgaaGreatDoorTk04
import Derived.Test.YtelpkajlejbbgaaGreatDoorTk08
import Derived.Lib.ItoaLen
import Derived.Test.YtelpkajlejbbgaaGreatDoorTk07
set_option linter.unusedVariables false
set_option linter.unusedSimpArgs false
namespace Go.Proofs.YtelpkajlejbbgaaGreatDoor
open Go.RowKit Go.Maps
def LC (t : ByteArray) : Nat := t.data.toList.count 10
def er3 (e : Int) : Prop := e = 5 ∨ e = 3 ∨ e = 4
/-- How far a reader is. -/
def EP {α : Type} (ln : Int) (t : ByteArray) (lo : Int) : Except (Int × Int) (α × ByteArray × Int) → Prop
  | .error (a, er) => lo ≤ a ∧ a ≤ ln + LC t + 1 ∧ er3 er
  | .ok (_, u, k) => k + LC u = ln + LC t
theorem lc_next {t u : ByteArray} {ws : List ByteArray} (h : nextF t = some (ws, u)) : LC t = LC u + 1 := by
  obtain ⟨_, _, _, h4, h5⟩ := next_facts h
  unfold LC
  rw [h4, List.count_append, List.count_eq_zero.2 h5, List.count_cons_self]
  omega
theorem EP.step {α : Type} {ln lo lo' : Int} {t u : ByteArray} {r : Except (Int × Int) (α × ByteArray × Int)} (h : EP (ln + 1) u lo' r) (hl : LC t = LC u + 1) (ho : lo ≤ lo') : EP ln t lo r := by
  match r, h with
  | .error (a, er), h => exact ⟨by have := h.1; omega, by have := h.2.1; omega, h.2.2⟩
  | .ok (_, u2, k), h => show k + _ = _; have h2 : k + (LC u2 : Int) = ln + 1 + LC u := h; omega
theorem ep_end {α : Type} {ln lo er : Int} {t : ByteArray} (h : lo ≤ ln + 1) (he : er3 er) : EP (α := α) ln t lo (.error (ln + 1, er)) := ⟨h, by omega, he⟩
theorem ep_at {α : Type} {ln lo er : Int} {t : ByteArray} (h : lo ≤ ln) (he : er3 er) : EP (α := α) ln t lo (.error (ln, er)) := ⟨h, by omega, he⟩
theorem e3 : er3 3 := .inr (.inl rfl)
theorem e4 : er3 4 := .inr (.inr rfl)
theorem e5 : er3 5 := .inl rfl
theorem batch_er : ∀ (n : Nat) (t : ByteArray) (ln : Int) (acc : List M), EP ln t (ln + 1) (batchF n t ln acc)
  | 0, t, ln, acc => by unfold batchF; rfl
  | n + 1, t, ln, acc => by
    unfold batchF
    cases hn : nextF t with
    | none => exact ep_end (by omega) e5
    | some wu =>
      obtain ⟨ws, u⟩ := wu
      simp only
      cases hm : msgW ws with
      | none => exact ep_end (by omega) e3
      | some m => exact (batch_er n u (ln + 1) (acc ++ [m])).step (lc_next hn) (by omega)
theorem batchR_er (s t : ByteArray) (ln : Int) : EP ln t ln (batchR s t ln) := by
  unfold batchR
  cases hn : numB s with
  | none => exact ep_at (by omega) e3
  | some n =>
    simp only
    split
    · exact ep_at (by omega) e3
    split
    · exact ep_at (by omega) e4
    · have h := batch_er n.toNat t ln []
      generalize batchF n.toNat t ln [] = r at h
      match r, h with
      | .error (a, er), h => exact ⟨by have := h.1; omega, h.2⟩
      | .ok (_, u2, k), h => exact h
theorem op_er (ws : List ByteArray) (t : ByteArray) (ln : Int) : EP ln t ln (opF ws t ln) := by
  unfold opF
  split
  · have h := batchR_er (wdA ws 1) t ln
    generalize batchR (wdA ws 1) t ln = r at h
    match r, h with
    | .error (a, er), h => exact h
    | .ok (_, u2, k), h => exact h
  · cases hw : opW ws with
    | none => exact ep_at (by omega) e3
    | some o => rfl
theorem rows_er : ∀ (f : Nat) (t : ByteArray) (ln : Int) (acc : List (List OpV)), t.size < f → EP ln t (ln + 1) (rowsG f t ln acc)
  | 0, t, ln, acc, h => by omega
  | f + 1, t, ln, acc, h => by
    unfold rowsG
    cases hn : nextF t with
    | none => exact ep_end (by omega) e5
    | some wu =>
      obtain ⟨ws, u⟩ := wu
      simp only
      obtain ⟨_, hu, _⟩ := next_facts hn
      have hl := lc_next hn
      split
      · cases hm : numsB (ws.drop 1) with
        | none => exact ep_end (by omega) e3
        | some l => show ln + 1 + _ = _; omega
      split
      · exact (rows_er f u (ln + 1) _ (by omega)).step hl (by omega)
      split
      · exact ep_end (by omega) e3
      · have ho := op_er ws u (ln + 1)
        cases hr : opF ws u (ln + 1) with
        | error e =>
          obtain ⟨a, er⟩ := e
          rw [hr] at ho
          exact EP.step (α := List (List OpV) × List Int) (r := .error (a, er)) ho hl (by omega)
        | ok q =>
          obtain ⟨o, u2, l2⟩ := q
          rw [hr] at ho
          obtain ⟨ho1, ho2, _⟩ := op_le hr
          have h2 : l2 + (LC u2 : Int) = ln + 1 + LC u := ho
          have ih := rows_er f u2 l2 (addLast acc o) (by omega)
          simp only
          generalize rowsG f u2 l2 (addLast acc o) = r at ih
          match r, ih with
          | .error (a, er), ih => exact ⟨by have := ih.1; omega, by have := ih.2.1; omega, ih.2.2⟩
          | .ok (_, u3, k), ih => show k + _ = _; have h3 : k + (LC u3 : Int) = l2 + LC u2 := ih; omega
theorem sizes_er (t : ByteArray) (ln : Int) : EP ln t (ln + 1) (sizesF t ln) := by
  unfold sizesF
  cases hn : nextF t with
  | none => exact ep_end (by omega) e5
  | some wu =>
    obtain ⟨ws, u⟩ := wu
    simp only
    have hl := lc_next hn
    split
    · cases hm : numsB (ws.drop 1) with
      | none => exact ep_end (by omega) e3
      | some l => show ln + 1 + _ = _; omega
    · exact ep_end (by omega) e3
theorem parse_er {t : ByteArray} {a er : Int} (h : parseF t = .error (a, er)) : 1 ≤ a ∧ a ≤ LC t + 1 ∧ er3 er := by
  unfold parseF at h
  have hz := sizes_er t 0
  cases hs : sizesF t 0 with
  | error e =>
    obtain ⟨a2, er2⟩ := e
    rw [hs] at h hz
    simp only at h
    cases h
    exact ⟨by have := hz.1; omega, by have := hz.2.1; omega, hz.2.2⟩
  | ok q =>
    obtain ⟨cf, u, l⟩ := q
    rw [hs] at h hz
    have hz2 : l + (LC u : Int) = 0 + LC t := hz
    have hle := (sizes_le hs).2
    simp only at h
    have hr := rows_er (u.size + 1) u l [] (by omega)
    cases hq : rowsG (u.size + 1) u l [] with
    | error e =>
      obtain ⟨a2, er2⟩ := e
      rw [hq] at h hr
      simp only at h
      cases h
      exact ⟨by have := hr.1; omega, by have := hr.2.1; omega, hr.2.2⟩
    | ok q =>
      obtain ⟨⟨rows, picks⟩, u2, l2⟩ := q
      rw [hq] at h hr
      have hr2 : l2 + (LC u2 : Int) = l + LC u := hr
      have hl2 := (rows_le _ _ _ _ _ _ _ hq).2.1
      simp only at h
      split at h
      · cases h
      · cases hn : nextF u2 with
        | none => rw [hn] at h; cases h; exact ⟨by omega, by omega, e5⟩
        | some wu => rw [hn] at h; cases h; exact ⟨by omega, by omega, e3⟩
end Go.Proofs.YtelpkajlejbbgaaGreatDoor
namespace Go.Proofs.YtelpkajlejbbgaaGreatDoor
open Go.RowKit Go.Maps
/-- Words in a block. -/
def WB (w : World) (bw : Nat) (ws : List ByteArray) : Prop := ∃ cs, w.heap[bw]? = some (.cells cs 9 (0, 0)) ∧ ∀ (i : Nat) x, ws[i]? = some x → cs[i]? = some (.string x)
theorem WB.cell {w : World} {bw : Nat} {ws : List ByteArray} (h : WB w bw ws) {i : Nat} {x : ByteArray} (hx : ws[i]? = some x) : w.cell? ⟨bw, i, none⟩ = some (.string x) := by
  obtain ⟨cs, h1, h2⟩ := h
  exact cellh h1 (h2 i x hx)
theorem WB.lt {w : World} {bw : Nat} {ws : List ByteArray} (h : WB w bw ws) : bw < w.heap.size := by
  obtain ⟨cs, h1, h2⟩ := h
  exact heap_lt h1
theorem WB.later {w w' : World} {bw : Nat} {ws : List ByteArray} (h : WB w bw ws) (b : Below w.heap.size w w') : WB w' bw ws := by
  obtain ⟨cs, h1, h2⟩ := h
  exact ⟨cs, keep_bel b h1, h2⟩
theorem ok_keep {w w' : World} {b k : Nat} {cs : Array Value} {t : TypeId} {fz : Nat × Nat} (h : Lib.OthersKept 5 (some b) w w') (hk : w.heap[k]? = some (.cells cs t fz)) (hb : k ≠ b) (ht : t ≠ 5) : w'.heap[k]? = some (.cells cs t fz) :=
  h k _ hk (fun e => hb (Option.some.inj e)) (fun c fz' e => by cases e; exact ht rfl)
theorem WB.others {w w' : World} {b bw : Nat} {ws : List ByteArray} (h : WB w bw ws) (o : Lib.OthersKept 5 (some b) w w') (hb : bw ≠ b) : WB w' bw ws := by
  obtain ⟨cs, h1, h2⟩ := h
  exact ⟨cs, ok_keep o h1 hb (by decide), h2⟩
def lineL (ws : List ByteArray) : List UInt8 := Lib.join (ws.map (·.data.toList)) [32] ++ [10]
def partL (ws : List ByteArray) (k : Nat) : List UInt8 := Lib.join ((ws.take k).map (·.data.toList)) [32]
theorem join_snoc : ∀ (ps : List (List UInt8)) (q : List UInt8), ps ≠ [] → Lib.join (ps ++ [q]) [32] = Lib.join ps [32] ++ 32 :: q
  | [], q, h => absurd rfl h
  | [p], q, _ => by
    show Lib.join (p :: q :: []) [32] = _
    rw [join_two, Lib.join_one, Lib.join_one]
  | p :: p2 :: ps, q, _ => by
    show Lib.join (p :: p2 :: (ps ++ [q])) [32] = _
    rw [join_two, join_two]
    have ih := join_snoc (p2 :: ps) q (by simp)
    rw [show p2 :: (ps ++ [q]) = (p2 :: ps) ++ [q] from rfl, ih]
    simp
theorem part_zero (ws : List ByteArray) : partL ws 0 = [] := rfl
theorem part_one {ws : List ByteArray} {x : ByteArray} (h : ws[0]? = some x) : partL ws 1 = x.data.toList := by
  unfold partL
  have e : ws.take 1 = [x] := by rw [List.take_add_one, h]; rfl
  rw [e]
  exact Lib.join_one _ _
theorem part_next {ws : List ByteArray} {k : Nat} {x : ByteArray} (hk : 0 < k) (h : ws[k]? = some x) : partL ws (k + 1) = (partL ws k ++ [32]) ++ x.data.toList := by
  unfold partL
  have hlt := (List.getElem?_eq_some_iff.1 h).1
  rw [List.take_add_one, h]
  show Lib.join ((ws.take k ++ [x]).map _) [32] = _
  rw [List.map_append]
  show Lib.join ((ws.take k).map _ ++ [x.data.toList]) [32] = _
  have hl : ((ws.take k).map (fun x : ByteArray => x.data.toList)).length = k := by rw [List.length_map, List.length_take]; omega
  rw [join_snoc _ _ (by intro e; rw [e] at hl; simp at hl; omega)]
  simp
theorem join_len (m : Nat) : ∀ (ps : List (List UInt8)), (∀ p ∈ ps, p.length ≤ m) → (Lib.join ps [32]).length ≤ ps.length * (m + 1)
  | [], _ => by simp [Lib.join, List.intercalate]
  | [p], h => by rw [Lib.join_one]; have := h p (by simp); simp; omega
  | p :: q :: ps, h => by
    rw [join_two, List.length_append, List.length_cons]
    have h1 := h p (by simp)
    have h2 := join_len m (q :: ps) (fun y hy => h y (by simp at hy ⊢; right; exact hy))
    have e : (p :: q :: ps).length * (m + 1) = (q :: ps).length * (m + 1) + (m + 1) := by rw [List.length_cons (a := p), Nat.succ_mul]
    rw [e]
    simp only [List.length_append, List.length_cons, List.length_nil] at h2 ⊢
    omega
theorem part_len {ws : List ByteArray} {m : Nat} (h : ∀ x ∈ ws, x.size ≤ m) (k : Nat) : (partL ws k).length ≤ ws.length * (m + 1) := by
  unfold partL
  have h1 := join_len m ((ws.take k).map (·.data.toList)) (fun p hp => by
    obtain ⟨x, hx, rfl⟩ := List.mem_map.1 hp
    rw [ba_len]
    exact h x (List.mem_of_mem_take hx))
  refine Nat.le_trans h1 (Nat.mul_le_mul_right _ ?_)
  rw [List.length_map, List.length_take]
  exact Nat.min_le_right _ _
/-- What a printer's call does. -/
structure PK (B b : Nat) (l : List UInt8) (w w' : World) : Prop where
  d : Bd 59 B b l w'
  bl : Below B w w'
  o : Lib.OthersKept 5 (some b) w w'
theorem PK.then {B b : Nat} {l l2 : List UInt8} {w w1 w2 : World} (h : PK B b l w w1) (k : PK B b l2 w1 w2) : PK B b l2 w w2 := ⟨k.d, h.bl.trans k.bl, h.o.trans k.o⟩
theorem ok_bel {b : Nat} {w w' : World} (h : Below w.heap.size w w') : Lib.OthersKept 5 (some b) w w' := fun k o hk _ _ => keep_bel h hk
theorem PK.later {B b : Nat} {l : List UInt8} {w w1 w2 : World} (h : PK B b l w w1) (k : Below w1.heap.size w1 w2) (hB : B ≤ w1.heap.size) : PK B b l w w2 := ⟨h.d.bel k, h.bl.trans (k.mono hB), h.o.trans (ok_bel k)⟩
theorem PK.start {B b : Nat} {l : List UInt8} {w : World} (h : Bd 59 B b l w) : PK B b l w w := ⟨h, Below.refl _ _, Lib.OthersKept.refl _ _ _⟩
theorem mul_le_big {n m : Nat} (h1 : n ≤ 1000000) (h2 : m ≤ 2000001) : n * m ≤ 2000001000000 := Nat.le_trans (Nat.mul_le_mul h1 h2) (by decide)
set_option maxHeartbeats 2000000 in
set_option maxRecDepth 100000 in
theorem line_any (B b bw n c : Nat) (ws : List ByteArray) (l : List UInt8) (w : World) (hn : ws.length = n) (h0 : n ≤ 1000000) (hW : WB w bw ws) (hD : Bd 59 B b l w) (hBw : B ≤ w.heap.size) (hl : l.length ≤ 1048576) (hs : ∀ x ∈ ws, x.size ≤ 2000000) (hb : bw ≠ b) :
    Calls Tryz.prog 24 #[.pointer (some ⟨b, 0, none⟩), .slice (some ⟨bw, 0, none⟩) n c] w fun e w' => e = .returned (.tuple #[]) ∧ PK B b (l ++ lineL ws) w w' := by
  have LEN := Lib.hid (fun k => (show (l ++ partL ws k).length ≤ 3000000000000 by
    rw [List.length_append]
    have := part_len hs k
    have := mul_le_big (n := ws.length) (m := 2000000 + 1) (by omega) (by omega)
    omega))
  have HN := Lib.hid (And.intro hn h0)
  have HW := Lib.hid hW
  have HS := Lib.hid hs
  have HB := Lib.hid (And.intro hb hBw)
  have LA := Lib.hid (len_any B b l w hD)
  have HD := Lib.hid (PK.start hD)
  have k20 : ¬ (1048576 : Int) < (l.length : Int) := by omega
  clear hn h0 hW hD hBw hl hs hb
  go_enter Tryz.func24, Tryz.ntmps24
  go_upto_region 2 with (first
    | (go_at_call 26; ((with_reducible refine LA.out.mono ?_); rintro e w1 ⟨rfl, hw⟩; (have hw2 := hw.symm; subst hw2; clear hw)))
    | fail)
  go_loopw [13] (fun iv wr => ∃ k : Nat, k ≤ n ∧ iv = .int .i64 k ∧ PK B b (l ++ partL ws k) w wr) (fun iv _ => n - (intOf iv).toNat)
  case atStart => exact ⟨0, by omega, rfl, by rw [part_zero, List.append_nil]; exact HD.out⟩
  case round =>
    obtain ⟨k, hk, rfl, hpk⟩ := hrel
    have HP := Lib.hid hpk
    clear hpk
    have HBW := Lib.hid (show B ≤ wr.heap.size from Nat.le_trans HB.out.2 HP.out.bl.size)
    by_cases h8 : k < n
    · have hk1 : (k : Int) < (n : Int) := by omega
      have hk0 : (0 : Int) ≤ (k : Int) := by omega
      have hNN := HN.out
      have WK : IntKind.i64.wrap ((k : Int) + 1) = (k : Int) + 1 := IntWalk.i64_in _ (by omega)
      obtain ⟨x, hx⟩ : ∃ x, ws[k]? = some x := ⟨_, List.getElem?_eq_getElem (by omega)⟩
      have HX := Lib.hid (HS.out x (List.mem_of_getElem? hx))
      have c0 := (HW.out.others HP.out.o HB.out.1).cell hx
      by_cases hz : k = 0
      · subst hz
        have HT := Lib.hid (show l ++ partL ws (0 + 1) = (l ++ partL ws 0) ++ x.data.toList by rw [part_zero, List.append_nil, part_one hx])
        clear hx hNN
        go_wp2_with (first
          | (go_at_call 50; ((with_reducible refine (writeString_any bt59 B b _ x wr HP.out.d (by have := LEN.out 0; have := HX.out; omega) HBW.out).mono ?_); rintro e w2 ⟨rfl, d2, b2, o2⟩; have P2 := Lib.hid (HP.out.then ⟨d2, b2, o2⟩); clear d2 b2 o2))
          | fail)
        exact ⟨⟨0 + 1, by omega, by simp, by rw [HT.out]; exact P2.out⟩, by simp [intOf]; omega⟩
      · have hk9 : (0 : Int) < (k : Int) := by omega
        have HT := Lib.hid (show l ++ partL ws (k + 1) = ((l ++ partL ws k) ++ [32]) ++ x.data.toList by rw [part_next (by omega) hx]; simp [List.append_assoc])
        have HL32 := Lib.hid (show ((l ++ partL ws k) ++ [32]).length ≤ 3000000000001 by rw [List.length_append]; have := LEN.out k; have h1 : ([32] : List UInt8).length = 1 := rfl; omega)
        have W1 := Lib.hid (writeByte_any bt59 B b _ 32 wr HP.out.d (by have := LEN.out k; omega) HBW.out)
        clear hx hNN
        go_wp2_with (first
          | (go_at_call 45; ((refine W1.out.mono ?_); rintro e w2 ⟨rfl, d2, b2, o2⟩; have P2 := Lib.hid (HP.out.then ⟨d2, b2, o2⟩); clear d2 b2 o2))
          | (go_at_call 50; ((with_reducible refine (writeString_any bt59 B b _ x w2 P2.out.d (by have := HL32.out; have := HX.out; omega) (Nat.le_trans HB.out.2 P2.out.bl.size)).mono ?_); rintro e w3 ⟨rfl, d3, b3, o3⟩; have P3 := Lib.hid (P2.out.then ⟨d3, b3, o3⟩); clear d3 b3 o3))
          | fail)
        exact ⟨⟨k + 1, by omega, rfl, by rw [HT.out]; exact P3.out⟩, by simp [intOf]; omega⟩
    · have hke : k = n := by omega
      subst hke
      have hk1 : ¬ (k : Int) < (k : Int) := by omega
      have HT := Lib.hid (show l ++ lineL ws = (l ++ partL ws k) ++ [10] by unfold lineL partL; rw [List.take_of_length_le (by have := HN.out; omega), List.append_assoc])
      have W1 := Lib.hid (writeByte_any bt59 B b _ 10 wr HP.out.d (by have := LEN.out k; omega) HBW.out)
      go_wp2_with (first
        | (go_at_call 45; ((refine W1.out.mono ?_); rintro e w2 ⟨rfl, d2, b2, o2⟩; have P2 := Lib.hid (HP.out.then ⟨d2, b2, o2⟩); clear d2 b2 o2))
        | fail)
      go_end0
      exact ⟨rfl, by rw [HT.out]; exact P2.out⟩
end Go.Proofs.YtelpkajlejbbgaaGreatDoor
namespace Go.Proofs.YtelpkajlejbbgaaGreatDoor
open Go.RowKit Go.Maps
theorem wb_of {w : World} {b : Nat} {cs : Array Value} {ws : List ByteArray} (h : w.heap[b]? = some (.cells cs 9 (0, 0))) (hp : cs.toList.take ws.length = ws.map Value.string) : WB w b ws := by
  refine ⟨cs, h, fun i x hx => ?_⟩
  have hlt := (List.getElem?_eq_some_iff.1 hx).1
  have e : (cs.toList.take ws.length)[i]? = some (.string x) := by rw [hp, List.getElem?_map, hx]; rfl
  rw [List.getElem?_take, if_pos hlt] at e
  simpa using e
theorem WB.lit (w : World) (cs : Array Value) (ws : List ByteArray) (h : cs.toList = ws.map Value.string) : WB (w.alloc (.cells cs 9)) w.heap.size ws := by
  refine wb_of (heap_alloc_new w _) ?_
  rw [h, List.take_of_length_le (by simp)]
theorem WB.row {w : World} {base : Nat} {A : Option Addr} {l : List ByteArray} {c : Nat} (h : ES.Row w base A l c) (hl : 0 < l.length) : ∃ b, A = some ⟨b, 0, none⟩ ∧ base ≤ b ∧ b < w.heap.size ∧ WB w b l := by
  obtain ⟨b, e, h1, h2, h3⟩ := h.blk hl
  refine ⟨b, e, h1, h2, ?_⟩
  rcases h with ⟨h, _⟩ | ⟨h0, h⟩
  · rw [h] at hl; cases hl
  · rcases h.2 with ⟨hv, hn⟩ | ⟨g, cap, cur, hv, hb, hg, q1, q2, q3, q4⟩
    · omega
    · rw [e] at hv
      injection hv with e1 e2 e3
      injection e1 with e1
      injection e1 with e1 e4 e5
      subst e1
      refine wb_of hg ?_
      rw [← es_all]
      have q : l.length * ES.k = l.length := Nat.mul_one _
      rw [q] at q4
      exact q4
theorem row_lit (w : World) (x : ByteArray) : ES.Row (w.alloc (.cells #[.string x] 9)) w.heap.size (some ⟨w.heap.size, 0, none⟩) [x] 1 :=
  .inr ⟨by omega, rfl, .inr ⟨w.heap.size, 1, #[.string x], rfl, Nat.le_refl _, heap_alloc_new w _, Nat.le_refl _, by unfold maxLen; omega, rfl, rfl⟩⟩
theorem itoa_sz (v : Int) (h0 : -9223372036854775808 ≤ v) (h1 : v ≤ 9223372036854775807) : (itoaB v).size ≤ 21 := by
  unfold itoaB
  rw [ba_size]
  exact Lib.itoa_length_le v h0 h1
set_option maxHeartbeats 2000000 in
set_option maxRecDepth 100000 in
theorem numbers_any (B b : Nat) (word : ByteArray) (A : Option Addr) (n c : Nat) (ns : List Int) (l : List UInt8) (w : World) (hg : GB B w) (hn : ns.length = n) (h0 : n ≤ 900000) (hA : EI.Rd w A ns) (hi : ∀ x ∈ ns, -9223372036854775808 ≤ x ∧ x ≤ 9223372036854775807) (hw : word.size ≤ 100) (hD : Bd 59 B b l w) (hbs : b < w.heap.size) (hl : l.length ≤ 1048576) :
    Calls Tryz.prog 22 #[.pointer (some ⟨b, 0, none⟩), .string word, .slice A n c] w fun e w' => e = .returned (.tuple #[]) ∧ PK B b (l ++ lineL (word :: ns.map itoaB)) w w' := by
  have HN := Lib.hid (And.intro hn h0)
  have HA := Lib.hid hA
  have HG := Lib.hid hg
  have HI := Lib.hid hi
  have HL := Lib.hid (And.intro hw hl)
  have HBS := Lib.hid hbs
  have HP0 := Lib.hid (PK.start hD)
  clear hg hn h0 hA hi hw hD hbs hl
  go_enter Tryz.func22, Tryz.ntmps22
  go_upto_region 2 with fail
  go_loopw [6, 13] (fun lv iv wr => ∃ (k : Nat) (A2 : Option Addr) (c2 : Nat), k ≤ n ∧ iv = .int .i64 k ∧ lv = .slice A2 (k + 1) c2 ∧ Hid (ES.Row wr w.heap.size A2 (word :: (ns.take k).map itoaB) c2) ∧ Below w.heap.size w wr) (fun _ iv _ => n - (intOf iv).toNat)
  case atStart => exact ⟨0, some ⟨w.heap.size, 0, none⟩, 1, by omega, rfl, rfl, Lib.hid (row_lit w word), alb w _⟩
  case round =>
    obtain ⟨k, A2, c2, hk, rfl, rfl, HW, hbw⟩ := hrel
    have HB := Lib.hid hbw
    clear hbw
    have hNN := HN.out
    have HK := Lib.hid (show (word :: (ns.take k).map itoaB).length = k + 1 by rw [List.length_cons, List.length_map, List.length_take]; omega)
    by_cases h8 : k < n
    · have hk1 : (k : Int) < (n : Int) := by omega
      have hk0 : (0 : Int) ≤ (k : Int) := by omega
      have WK : IntKind.i64.wrap ((k : Int) + 1) = (k : Int) + 1 := IntWalk.i64_in _ (by omega)
      obtain ⟨x, hx⟩ : ∃ x, ns[k]? = some x := ⟨_, List.getElem?_eq_getElem (by omega)⟩
      obtain ⟨b2, off, rfl, hlt, g0⟩ := ei_at (HA.out.later HB.out) hx
      have HX := Lib.hid (HI.out x (List.mem_of_getElem? hx))
      have HK2 := Lib.hid (show k + 1 ≤ 1000000 by omega)
      have HT := Lib.hid (show word :: (ns.take (k + 1)).map itoaB = (word :: (ns.take k).map itoaB) ++ [itoaB x] by rw [List.take_add_one, hx]; simp)
      have HGW := Lib.hid (HG.out.later HB.out).gw
      clear hx hNN
      go_wp2_with (first
        | (go_at_call 49; ((refine (itoa_any x HX.out.1 HX.out.2 _ HGW.out).mono ?_); rintro e w1 ⟨rfl, b1⟩; have B1 := Lib.hid (bel_trans HB.out b1); have RW := Lib.hid ((HW.out.later b1).later (alb w1 (.cells #[.string (itoaB x)] 9))); have RV := Lib.hid (RE.Rd.lit (E := ES) w1 9 [itoaB x] #[.string (itoaB x)] rfl); have B2 := Lib.hid (bel_alloc B1.out (.cells #[.string (itoaB x)] 9)); clear b1))
        | (at_builtin; refine RE.wpList_put ES _ rfl (.tmp 17) (.tmp 20) rfl (base := w.heap.size) A2 (k + 1) c2 _ _ 1 1 [itoaB x] rfl rfl RW.out HK.out HK2.out B2.out.size rfl (by omega) RV.out ?_; intro A3 c3 w5 r1 r2 r3; have R1 := Lib.hid r1; have R2 := Lib.hid r2; clear r1 r2 r3)
        | fail)
      exact ⟨⟨k + 1, A3, c3, by omega, rfl, rfl, Lib.hid (by rw [HT.out]; exact R1.out), B2.out.trans (RE.Row.below R2.out RW.out (Nat.le_refl _) B2.out.size)⟩, by simp [intOf]; omega⟩
    · have hke : k = n := by omega
      subst hke
      have hk1 : ¬ (k : Int) < (k : Int) := by omega
      have HE := Lib.hid (show word :: (ns.take k).map itoaB = word :: ns.map itoaB by rw [List.take_of_length_le (by omega)])
      obtain ⟨bw, rfl, h1, h2, hWB⟩ := WB.row HW.out (by simp)
      rw [HE.out] at hWB HK
      have P1 := Lib.hid (HP0.out.later HB.out HG.out.le)
      have LA := Lib.hid (line_any B b bw (k + 1) c2 (word :: ns.map itoaB) l wr HK.out (by omega) hWB P1.out.d (Nat.le_trans HG.out.le HB.out.size) HL.out.2 (by
        intro x hx
        rcases List.mem_cons.1 hx with rfl | hx
        · have := HL.out.1; omega
        · obtain ⟨v, hv, rfl⟩ := List.mem_map.1 hx
          have := itoa_sz v (HI.out v hv).1 (HI.out v hv).2
          omega) (by have := HBS.out; omega))
      clear hNN h1 h2 hWB
      go_wp2_with (first
        | (go_at_call 24; ((refine LA.out.mono ?_); rintro e w2 ⟨rfl, p2⟩; have P2 := Lib.hid (P1.out.then p2); clear p2))
        | fail)
      go_end0
      exact ⟨rfl, P2.out⟩
set_option maxHeartbeats 2000000 in
set_option maxRecDepth 100000 in
theorem numsof_any (a0 a1 a2 a3 a4 a5 a6 a7 a8 : Int) (w : World) :
    Calls Tryz.prog 23 #[cfg a0 a1 a2 a3 a4 a5 a6 a7 a8] w fun e w' => e = .returned (.slice (some ⟨w.heap.size + 1, 0, none⟩) 9 9) ∧ EI.Row w' w.heap.size (some ⟨w.heap.size + 1, 0, none⟩) [a0, a1, a2, a3, a4, a5, a6, a7, a8] 9 ∧ Below w.heap.size w w' := by
  go_enter Tryz.func23, Tryz.ntmps23
  go_wp2
  refine bodyPost_ret (v := .slice (some ⟨w.heap.size + 1, 0, none⟩) 9 9) (by simp [results, Tryz.results23, go_sem]) rfl ⟨rfl, ?_, bel_alloc (alb _ _) _⟩
  have e : (w.alloc (.cells #[.int .i64 a0, .int .i64 a1, .int .i64 a2, .int .i64 a3, .int .i64 a4, .int .i64 a5, .int .i64 a6, .int .i64 a7, .int .i64 a8] 23)).heap.size = w.heap.size + 1 := by simp
  have hn := heap_alloc_new (w.alloc (.cells #[.int .i64 a0, .int .i64 a1, .int .i64 a2, .int .i64 a3, .int .i64 a4, .int .i64 a5, .int .i64 a6, .int .i64 a7, .int .i64 a8] 23)) (.cells #[.int .i64 a0, .int .i64 a1, .int .i64 a2, .int .i64 a3, .int .i64 a4, .int .i64 a5, .int .i64 a6, .int .i64 a7, .int .i64 a8] 3)
  rw [e] at hn
  exact .inr ⟨by omega, rfl, .inr ⟨w.heap.size + 1, 9, _, rfl, by omega, hn, Nat.le_refl _, by unfold maxLen; omega, rfl, rfl⟩⟩
end Go.Proofs.YtelpkajlejbbgaaGreatDoor
namespace Go.Proofs.YtelpkajlejbbgaaGreatDoor
open Go.RowKit Go.Maps
/-- A message's words. -/
def mWords (m : M) : List ByteArray :=
  if m.k = 1 then [wPut, tokB m.key, tokB m.val]
  else if m.k = 2 then [wDel, tokB m.key]
  else if m.k = 3 then [wAdd, tokB m.key, utoaB m.dl.toNat]
  else [wClr, tokB m.key, tokB m.too]
/-- A message that may be printed. -/
structure MOk (m : M) : Prop where
  k : m.k = 1 ∨ m.k = 2 ∨ m.k = 3 ∨ m.k = 4
  key : m.key.size ≤ 900000
  too : m.too.size ≤ 900000
  val : m.val.size ≤ 900000
  d0 : 0 ≤ m.dl
  d1 : m.dl ≤ 18446744073709551615
theorem tok_sz {t : ByteArray} (h : t.size ≤ 900000) : (tokB t).size ≤ 2000000 := by have := tok_size t; omega
theorem utoa_sz (u : Nat) (h : u ≤ 18446744073709551615) : (utoaB u).size ≤ 2000000 := by
  unfold utoaB
  rw [ba_size, Lib.decDigits_length]
  have := Lib.nDigits_le20 u (by omega)
  omega
set_option maxHeartbeats 2000000 in
set_option maxRecDepth 100000 in
theorem pmsg_1 (B b : Nat) (q : Int) (dl : Int) (key too val : ByteArray) (l : List UInt8) (w : World) (hg : GB B w) (hkey : key.size ≤ 900000) (htoo : too.size ≤ 900000) (hval : val.size ≤ 900000) (hD : Bd 59 B b l w) (hbs : b < w.heap.size) (hl : l.length ≤ 1048576) :
    Calls Tryz.prog 51 #[.pointer (some ⟨b, 0, none⟩), .agg #[.int .u8 1, .int .i64 q, .string key, .string too, .string val, .int .u64 dl]] w fun e w' => e = .returned (.tuple #[]) ∧ PK B b (l ++ lineL [wPut, tokB key, tokB val]) w w' := by
  have HG := Lib.hid hg
  have HS := Lib.hid (And.intro hkey (And.intro htoo hval))
  have HL := Lib.hid hl
  have HBS := Lib.hid hbs
  have HP0 := Lib.hid (PK.start hD)
  clear hg hkey htoo hval hD hbs hl
  obtain ⟨W0, hW0⟩ : ∃ W0, W0 = w.alloc (.cells #[.int .u8 1, .int .i64 q, .string key, .string too, .string val, .int .u64 dl] 51) := ⟨_, rfl⟩
  have B0 := Lib.hid (show Below w.heap.size w W0 by rw [hW0]; exact alb w _)
  have Z0 := Lib.hid (show W0.heap[w.heap.size]? = some (.cells #[.int .u8 1, .int .i64 q, .string key, .string too, .string val, .int .u64 dl] 51) by rw [hW0]; exact heap_alloc_new w _)
  obtain ⟨c0, c1, c2, c3, c4, c5⟩ := cells6 Z0.out
  go_enter Tryz.func51, Tryz.ntmps51
  go_upto_region 1 with fail
  rw [← hW0]
  clear hW0
  go_wp2_with (first
    | (go_at_call 19; ((with_reducible refine (token_any key (by have := HS.out.1; omega) _).mono ?_); rintro e w1 ⟨rfl, b1⟩; have B1 := Lib.hid (bel_trans B0.out b1); have Z1 := Lib.hid (keep_bel b1 Z0.out); obtain ⟨c0, c1, c2, c3, c4, c5⟩ := cells6 Z1.out; clear b1))
    | (go_at_call 19; ((with_reducible refine (token_any val (by have := HS.out.2.2; omega) _).mono ?_); rintro e w2 ⟨rfl, b1⟩; have B2 := Lib.hid (bel_trans B1.out b1); have Z2 := Lib.hid (keep_bel b1 Z1.out); obtain ⟨c0, c1, c2, c3, c4, c5⟩ := cells6 Z2.out; clear b1))
    | (go_at_call 24; ((refine (line_any B b _ 3 3 [wPut, tokB key, tokB val] l _ rfl (by omega) (WB.lit w2 #[.string wPut, .string (tokB key), .string (tokB val)] [wPut, tokB key, tokB val] rfl) (HP0.out.later (bel_alloc B2.out _) HG.out.le).d (Nat.le_trans HG.out.le (bel_alloc B2.out _).size) HL.out (by intro x hx; simp only [List.mem_cons, List.not_mem_nil, or_false] at hx; rcases hx with rfl | rfl | rfl <;> first | decide | exact tok_sz HS.out.1 | exact tok_sz HS.out.2.2 ) (by have := HBS.out; have := B2.out.size; omega)).mono ?_); rintro e w9 ⟨rfl, p2⟩; have P2 := Lib.hid ((HP0.out.later (bel_alloc B2.out _) HG.out.le).then p2); clear p2))
    | fail)
  go_end0
  exact ⟨rfl, P2.out⟩
set_option maxHeartbeats 2000000 in
set_option maxRecDepth 100000 in
theorem pmsg_2 (B b : Nat) (q : Int) (dl : Int) (key too val : ByteArray) (l : List UInt8) (w : World) (hg : GB B w) (hkey : key.size ≤ 900000) (htoo : too.size ≤ 900000) (hval : val.size ≤ 900000) (hD : Bd 59 B b l w) (hbs : b < w.heap.size) (hl : l.length ≤ 1048576) :
    Calls Tryz.prog 51 #[.pointer (some ⟨b, 0, none⟩), .agg #[.int .u8 2, .int .i64 q, .string key, .string too, .string val, .int .u64 dl]] w fun e w' => e = .returned (.tuple #[]) ∧ PK B b (l ++ lineL [wDel, tokB key]) w w' := by
  have HG := Lib.hid hg
  have HS := Lib.hid (And.intro hkey (And.intro htoo hval))
  have HL := Lib.hid hl
  have HBS := Lib.hid hbs
  have HP0 := Lib.hid (PK.start hD)
  clear hg hkey htoo hval hD hbs hl
  obtain ⟨W0, hW0⟩ : ∃ W0, W0 = w.alloc (.cells #[.int .u8 2, .int .i64 q, .string key, .string too, .string val, .int .u64 dl] 51) := ⟨_, rfl⟩
  have B0 := Lib.hid (show Below w.heap.size w W0 by rw [hW0]; exact alb w _)
  have Z0 := Lib.hid (show W0.heap[w.heap.size]? = some (.cells #[.int .u8 2, .int .i64 q, .string key, .string too, .string val, .int .u64 dl] 51) by rw [hW0]; exact heap_alloc_new w _)
  obtain ⟨c0, c1, c2, c3, c4, c5⟩ := cells6 Z0.out
  go_enter Tryz.func51, Tryz.ntmps51
  go_upto_region 1 with fail
  rw [← hW0]
  clear hW0
  go_wp2_with (first
    | (go_at_call 19; ((with_reducible refine (token_any key (by have := HS.out.1; omega) _).mono ?_); rintro e w1 ⟨rfl, b1⟩; have B1 := Lib.hid (bel_trans B0.out b1); have Z1 := Lib.hid (keep_bel b1 Z0.out); obtain ⟨c0, c1, c2, c3, c4, c5⟩ := cells6 Z1.out; clear b1))
    | (go_at_call 24; ((refine (line_any B b _ 2 2 [wDel, tokB key] l _ rfl (by omega) (WB.lit w1 #[.string wDel, .string (tokB key)] [wDel, tokB key] rfl) (HP0.out.later (bel_alloc B1.out _) HG.out.le).d (Nat.le_trans HG.out.le (bel_alloc B1.out _).size) HL.out (by intro x hx; simp only [List.mem_cons, List.not_mem_nil, or_false] at hx; rcases hx with rfl | rfl <;> first | decide | exact tok_sz HS.out.1 ) (by have := HBS.out; have := B1.out.size; omega)).mono ?_); rintro e w9 ⟨rfl, p2⟩; have P2 := Lib.hid ((HP0.out.later (bel_alloc B1.out _) HG.out.le).then p2); clear p2))
    | fail)
  go_end0
  exact ⟨rfl, P2.out⟩
set_option maxHeartbeats 2000000 in
set_option maxRecDepth 100000 in
theorem pmsg_3 (B b : Nat) (q : Int) (d : Nat) (key too val : ByteArray) (l : List UInt8) (w : World) (hg : GB B w) (hkey : key.size ≤ 900000) (htoo : too.size ≤ 900000) (hval : val.size ≤ 900000) (hd : d ≤ 18446744073709551615) (hD : Bd 59 B b l w) (hbs : b < w.heap.size) (hl : l.length ≤ 1048576) :
    Calls Tryz.prog 51 #[.pointer (some ⟨b, 0, none⟩), .agg #[.int .u8 3, .int .i64 q, .string key, .string too, .string val, .int .u64 (d : Int)]] w fun e w' => e = .returned (.tuple #[]) ∧ PK B b (l ++ lineL [wAdd, tokB key, utoaB d]) w w' := by
  have HG := Lib.hid hg
  have HS := Lib.hid (And.intro hkey (And.intro htoo hval))
  have HL := Lib.hid hl
  have HBS := Lib.hid hbs
  have HP0 := Lib.hid (PK.start hD)
  have HD := Lib.hid hd
  clear hg hkey htoo hval hD hbs hl hd
  obtain ⟨W0, hW0⟩ : ∃ W0, W0 = w.alloc (.cells #[.int .u8 3, .int .i64 q, .string key, .string too, .string val, .int .u64 (d : Int)] 51) := ⟨_, rfl⟩
  have B0 := Lib.hid (show Below w.heap.size w W0 by rw [hW0]; exact alb w _)
  have Z0 := Lib.hid (show W0.heap[w.heap.size]? = some (.cells #[.int .u8 3, .int .i64 q, .string key, .string too, .string val, .int .u64 (d : Int)] 51) by rw [hW0]; exact heap_alloc_new w _)
  obtain ⟨c0, c1, c2, c3, c4, c5⟩ := cells6 Z0.out
  go_enter Tryz.func51, Tryz.ntmps51
  go_upto_region 1 with fail
  rw [← hW0]
  clear hW0
  go_wp2_with (first
    | (go_at_call 19; ((with_reducible refine (token_any key (by have := HS.out.1; omega) _).mono ?_); rintro e w1 ⟨rfl, b1⟩; have B1 := Lib.hid (bel_trans B0.out b1); have Z1 := Lib.hid (keep_bel b1 Z0.out); obtain ⟨c0, c1, c2, c3, c4, c5⟩ := cells6 Z1.out; clear b1))
    | (go_at_call 71; ((with_reducible refine (futoa_any d HD.out _ (HG.out.later B1.out).gw).mono ?_); rintro e w2 ⟨rfl, b1⟩; have B2 := Lib.hid (bel_trans B1.out b1); have Z2 := Lib.hid (keep_bel b1 Z1.out); obtain ⟨c0, c1, c2, c3, c4, c5⟩ := cells6 Z2.out; clear b1))
    | (go_at_call 24; ((refine (line_any B b _ 3 3 [wAdd, tokB key, utoaB d] l _ rfl (by omega) (WB.lit w2 #[.string wAdd, .string (tokB key), .string (utoaB d)] [wAdd, tokB key, utoaB d] rfl) (HP0.out.later (bel_alloc B2.out _) HG.out.le).d (Nat.le_trans HG.out.le (bel_alloc B2.out _).size) HL.out (by intro x hx; simp only [List.mem_cons, List.not_mem_nil, or_false] at hx; rcases hx with rfl | rfl | rfl <;> first | decide | exact tok_sz HS.out.1 | exact utoa_sz d HD.out ) (by have := HBS.out; have := B2.out.size; omega)).mono ?_); rintro e w9 ⟨rfl, p2⟩; have P2 := Lib.hid ((HP0.out.later (bel_alloc B2.out _) HG.out.le).then p2); clear p2))
    | fail)
  go_end0
  exact ⟨rfl, P2.out⟩
set_option maxHeartbeats 2000000 in
set_option maxRecDepth 100000 in
theorem pmsg_4 (B b : Nat) (q : Int) (dl : Int) (key too val : ByteArray) (l : List UInt8) (w : World) (hg : GB B w) (hkey : key.size ≤ 900000) (htoo : too.size ≤ 900000) (hval : val.size ≤ 900000) (hD : Bd 59 B b l w) (hbs : b < w.heap.size) (hl : l.length ≤ 1048576) :
    Calls Tryz.prog 51 #[.pointer (some ⟨b, 0, none⟩), .agg #[.int .u8 4, .int .i64 q, .string key, .string too, .string val, .int .u64 dl]] w fun e w' => e = .returned (.tuple #[]) ∧ PK B b (l ++ lineL [wClr, tokB key, tokB too]) w w' := by
  have HG := Lib.hid hg
  have HS := Lib.hid (And.intro hkey (And.intro htoo hval))
  have HL := Lib.hid hl
  have HBS := Lib.hid hbs
  have HP0 := Lib.hid (PK.start hD)
  clear hg hkey htoo hval hD hbs hl
  obtain ⟨W0, hW0⟩ : ∃ W0, W0 = w.alloc (.cells #[.int .u8 4, .int .i64 q, .string key, .string too, .string val, .int .u64 dl] 51) := ⟨_, rfl⟩
  have B0 := Lib.hid (show Below w.heap.size w W0 by rw [hW0]; exact alb w _)
  have Z0 := Lib.hid (show W0.heap[w.heap.size]? = some (.cells #[.int .u8 4, .int .i64 q, .string key, .string too, .string val, .int .u64 dl] 51) by rw [hW0]; exact heap_alloc_new w _)
  obtain ⟨c0, c1, c2, c3, c4, c5⟩ := cells6 Z0.out
  go_enter Tryz.func51, Tryz.ntmps51
  go_upto_region 1 with fail
  rw [← hW0]
  clear hW0
  go_wp2_with (first
    | (go_at_call 19; ((with_reducible refine (token_any key (by have := HS.out.1; omega) _).mono ?_); rintro e w1 ⟨rfl, b1⟩; have B1 := Lib.hid (bel_trans B0.out b1); have Z1 := Lib.hid (keep_bel b1 Z0.out); obtain ⟨c0, c1, c2, c3, c4, c5⟩ := cells6 Z1.out; clear b1))
    | (go_at_call 19; ((with_reducible refine (token_any too (by have := HS.out.2.1; omega) _).mono ?_); rintro e w2 ⟨rfl, b1⟩; have B2 := Lib.hid (bel_trans B1.out b1); have Z2 := Lib.hid (keep_bel b1 Z1.out); obtain ⟨c0, c1, c2, c3, c4, c5⟩ := cells6 Z2.out; clear b1))
    | (go_at_call 24; ((refine (line_any B b _ 3 3 [wClr, tokB key, tokB too] l _ rfl (by omega) (WB.lit w2 #[.string wClr, .string (tokB key), .string (tokB too)] [wClr, tokB key, tokB too] rfl) (HP0.out.later (bel_alloc B2.out _) HG.out.le).d (Nat.le_trans HG.out.le (bel_alloc B2.out _).size) HL.out (by intro x hx; simp only [List.mem_cons, List.not_mem_nil, or_false] at hx; rcases hx with rfl | rfl | rfl <;> first | decide | exact tok_sz HS.out.1 | exact tok_sz HS.out.2.1 ) (by have := HBS.out; have := B2.out.size; omega)).mono ?_); rintro e w9 ⟨rfl, p2⟩; have P2 := Lib.hid ((HP0.out.later (bel_alloc B2.out _) HG.out.le).then p2); clear p2))
    | fail)
  go_end0
  exact ⟨rfl, P2.out⟩
theorem pmsg_any (B b : Nat) (m : M) (l : List UInt8) (w : World) (hg : GB B w) (hm : MOk m) (hD : Bd 59 B b l w) (hbs : b < w.heap.size) (hl : l.length ≤ 1048576) :
    Calls Tryz.prog 51 #[.pointer (some ⟨b, 0, none⟩), m.v] w fun e w' => e = .returned (.tuple #[]) ∧ PK B b (l ++ lineL (mWords m)) w w' := by
  obtain ⟨hk, h1, h2, h3, h4, h5⟩ := hm
  obtain ⟨k, q, key, too, val, dl⟩ := m
  simp only at hk h1 h2 h3 h4 h5
  rcases hk with rfl | rfl | rfl | rfl
  · exact pmsg_1 B b q dl key too val l w hg h1 h2 h3 hD hbs hl
  · exact pmsg_2 B b q dl key too val l w hg h1 h2 h3 hD hbs hl
  · obtain ⟨d, rfl⟩ : ∃ d : Nat, dl = d := ⟨dl.toNat, by omega⟩
    exact pmsg_3 B b q d key too val l w hg h1 h2 h3 (by omega) hD hbs hl
  · exact pmsg_4 B b q dl key too val l w hg h1 h2 h3 hD hbs hl
end Go.Proofs.YtelpkajlejbbgaaGreatDoor
