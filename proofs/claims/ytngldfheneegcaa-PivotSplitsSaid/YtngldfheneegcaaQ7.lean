/- Pivots: which parts meet a range: the document's. -/
import Derived.Test.YtngldfheneegcaaQ6
namespace Go.Proofs.Ytngldfheneegcaa
set_option linter.unusedSimpArgs false
open Go.RowKit
set_option linter.unusedVariables false

abbrev PP := ByteArray × ByteArray
/-- From the last part to the first. -/
def rmt (a b : ByteArray) : Nat → List PP → Nat × Nat
  | _, [] => (0, 0)
  | i, x :: xs => if (meetF x.1 x.2 a b).2.2 = true then (i, (rmt a b (i + 1) xs).2 + 1) else rmt a b (i + 1) xs
def en : Nat → List PP → List Part
  | _, [] => []
  | i, x :: xs => (i, x) :: en (i + 1) xs
theorem en_snoc : ∀ (i : Nat) (xs : List PP) (y : PP), en i (xs ++ [y]) = en i xs ++ [(i + xs.length, y)]
  | i, [], y => by simp [en]
  | i, x :: xs, y => by simp [en, en_snoc (i + 1) xs y]; omega
theorem en_pcs (p : List ByteArray) (f t : ByteArray) : ∀ k, en 0 (pcs p f t k) = upto p f t k
  | 0 => rfl
  | k + 1 => by rw [pcs_succ, en_snoc, en_pcs p f t k, upto_succ, pcs_length]; simp [prtOf]
theorem rmt_zero (a b : ByteArray) : ∀ (i : Nat) (xs : List PP), (rmt a b i xs).2 = 0 → rmt a b i xs = (0, 0)
  | _, [], _ => rfl
  | i, x :: xs, h => by
    unfold rmt at h ⊢
    split
    · rename_i h1; rw [if_pos h1] at h; simp at h
    · rename_i h1; rw [if_neg h1] at h; exact rmt_zero a b (i + 1) xs h
theorem fold_rmt (a b : ByteArray) : ∀ (xs : List PP) (i f c : Nat), (en i xs).foldl (mtS a b) (f, c) = (if c = 0 then (if (rmt a b i xs).2 = 0 then f else (rmt a b i xs).1) else f, c + (rmt a b i xs).2)
  | [], i, f, c => by simp [en, rmt]
  | x :: xs, i, f, c => by
    have ih := fold_rmt a b xs (i + 1)
    simp only [en, List.foldl_cons]
    by_cases h : (meetF x.1 x.2 a b).2.2 = true
    · have e1 : mtS a b (f, c) (i, x) = (if c = 0 then i else f, c + 1) := by unfold mtS; rw [if_pos h]
      have e2 : rmt a b i (x :: xs) = (i, (rmt a b (i + 1) xs).2 + 1) := by rw [rmt, if_pos h]
      rw [e1, ih, e2]
      by_cases hc : c = 0
      · subst hc; simp; omega
      · simp [hc]; omega
    · have e1 : mtS a b (f, c) (i, x) = (f, c) := by unfold mtS; rw [if_neg h]
      have e2 : rmt a b i (x :: xs) = rmt a b (i + 1) xs := by rw [rmt, if_neg h]
      rw [e1, ih, e2]
theorem mts_rmt (a b : ByteArray) (xs : List PP) : mts a b (en 0 xs) = rmt a b 0 xs := by
  unfold mts
  rw [fold_rmt]
  by_cases h : (rmt a b 0 xs).2 = 0
  · rw [rmt_zero a b 0 xs h]; simp
  · simp [h]
theorem rmt_le (a b : ByteArray) : ∀ (xs : List PP) (i : Nat), (rmt a b i xs).2 ≤ xs.length
  | [], _ => by simp [rmt]
  | x :: xs, i => by
    have := rmt_le a b xs (i + 1)
    unfold rmt
    split
    · simp; omega
    · simp; omega
theorem rmt_step (a b : ByteArray) {ps : List PP} {k : Nat} {x : PP} (hx : ps[k]? = some x) : rmt a b k (ps.drop k) = if (meetF x.1 x.2 a b).2.2 = true then (k, (rmt a b (k + 1) (ps.drop (k + 1))).2 + 1) else rmt a b (k + 1) (ps.drop (k + 1)) := by
  obtain ⟨h1, h2⟩ := List.getElem?_eq_some_iff.1 hx
  rw [List.drop_eq_getElem_cons h1, h2, rmt]

set_option maxRecDepth 10000 in
set_option maxHeartbeats 2000000 in
theorem rmeets_any (A : Option Addr) (p : List ByteArray) (n c : Nat) (f t a b : ByteArray) (w : World) (hl : p.length = n) (hn : n ≤ 1000) (hr : RdS w A p) :
    Calls Try.prog 11 #[.slice A n c, .agg #[.string f, .string t], .agg #[.string a, .string b]] w (MeetsPost w (rmt a b 0 (parts p f t))) := by
  have B0 : Hid (Below w.heap.size w ((w.alloc (rgc f t)).alloc (rgc a b))) := Lib.hid (by go_grown)
  have q0 : ((w.alloc (rgc f t)).alloc (rgc a b)).cell? ⟨w.heap.size + 1, 0, none⟩ = some (.string a) := by have := (rgcell (w := w.alloc (rgc f t)) a b).1; simpa only [World.size_alloc] using this
  have q1 : ((w.alloc (rgc f t)).alloc (rgc a b)).cell? ⟨w.heap.size + 1, 1, none⟩ = some (.string b) := by have := (rgcell (w := w.alloc (rgc f t)) a b).2; simpa only [World.size_alloc] using this
  have SP := Lib.hid (fun W (hb : Below w.heap.size w W) => rspans_any A p n c f t W hl hn (Rd.later hr hb))
  obtain ⟨ps, hps⟩ : ∃ ps, ps = parts p f t := ⟨_, rfl⟩
  obtain ⟨m, hm⟩ : ∃ m, ps.length = m := ⟨_, rfl⟩
  have hm9 : m ≤ 1001 := by rw [← hm, hps, parts_eq, pcs_length]; have := many_le p f t; omega
  rw [← hps] at SP ⊢
  have HM := Lib.hid hm
  clear hr hl hps hm
  go_enter Try.func11, Try.ntmps11
  go_wp2_with (go_at_call 7; ((with_reducible refine (SP.out _ B0.out).mono ?_); rintro e w3 ⟨A', cc, rfl, rp, e3⟩; have B3 := Lib.hid (B0.out.trans (e3.mono B0.out.size)); have c4 := Lib.hid (bel_later e3 q0); have c5 := Lib.hid (bel_later e3 q1); have RPP := Lib.hid rp; rw [HM.out]; clear e3 rp))
  go_loopw [9, 10, 11] (fun fv nv iv wr => ∃ k : Nat, k ≤ m ∧ iv = .int .i64 ((k : Int) - 1) ∧ fv = .int .i64 ((rmt a b k (ps.drop k)).1 : Int) ∧ nv = .int .i64 ((rmt a b k (ps.drop k)).2 : Int) ∧ Below w3.heap.size w3 wr) (fun _ _ i _ => (intOf i + 1).toNat)
  case atStart => exact ⟨m, Nat.le_refl _, rfl, by rw [List.drop_eq_nil_of_le (by rw [HM.out]; exact Nat.le_refl _)]; rfl, by rw [List.drop_eq_nil_of_le (by rw [HM.out]; exact Nat.le_refl _)]; rfl, Below.refl _ _⟩
  case round =>
    obtain ⟨k, hk, rfl, rfl, rfl, hbw⟩ := hrel
    have BW := Lib.hid hbw
    have r0 := (bel_cell BW.out (World.block_lt_of_cell? w3 _ c4.out)).trans c4.out
    have r1 := (bel_cell BW.out (World.block_lt_of_cell? w3 _ c5.out)).trans c5.out
    have hle := rmt_le a b (ps.drop k) k
    rw [List.length_drop, HM.out] at hle
    clear hbw
    cases k with
    | zero =>
      obtain ⟨s, hs⟩ : ∃ s, s = rmt a b 0 ps := ⟨_, rfl⟩
      rw [List.drop_zero, ← hs]
      have HS := Lib.hid hs
      clear hs hle
      go_wp2
      exact bodyPost_ret (v := .tuple #[.int .i64 (s.1 : Int), .int .i64 (s.2 : Int)]) (by simp [results, Try.results11, go_sem]) rfl ⟨by rw [← HS.out], B3.out.trans (BW.out.mono B3.out.size)⟩
    | succ j =>
      have hj : ((j + 1 : Nat) : Int) - 1 = (j : Int) := by omega
      have j0 : (0 : Int) ≤ (j : Int) := by omega
      have j1 : (j : Int) < (m : Int) := by omega
      have j9 : (j : Int) ≤ 1001 := by omega
      rw [hj]
      obtain ⟨x, hx⟩ : ∃ x, ps[j]? = some x := ⟨_, List.getElem?_eq_getElem (by rw [HM.out]; omega)⟩
      have hst := rmt_step a b hx
      obtain ⟨bb, off, rfl, hlt, f0, f1⟩ := rdp_get RPP.out hx
      have g0 : wr.cell? ⟨bb, off + j * 2, none⟩ = some (.string x.1) := (bel_cell BW.out hlt).trans f0
      have g1 : wr.cell? ⟨bb, off + j * 2 + 1, none⟩ = some (.string x.2) := (bel_cell BW.out hlt).trans f1
      obtain ⟨x0, x1⟩ := x
      obtain ⟨s, hs⟩ : ∃ s, s = rmt a b (j + 1) (ps.drop (j + 1)) := ⟨_, rfl⟩
      rw [← hs] at hst hle ⊢
      obtain ⟨s1, s2⟩ := s
      have s0 : (0 : Int) ≤ (s2 : Int) := by omega
      have s9 : (s2 : Int) ≤ 1001 := by simp at hle; omega
      have ME := Lib.hid (fun W => rmeet_any x0 x1 a b W)
      obtain ⟨⟨u, v, ok⟩, hu⟩ : ∃ r, r = meetF x0 x1 a b := ⟨_, rfl⟩
      simp only [← hu] at ME hst
      have HST := Lib.hid hst
      clear hst f0 f1 hx hs hle hu hj
      unfold mv at ME
      have XB : Below wr.heap.size wr (wr.alloc (.cells #[.string ⟨#[]⟩, .string ⟨#[]⟩] 24)) := bel_alloc (Below.refl _ _) _
      have r0a := bel_later XB r0
      have r1a := bel_later XB r1
      have g0a := bel_later XB g0
      have g1a := bel_later XB g1
      have MA := Lib.hid (ME.out (wr.alloc (.cells #[.string ⟨#[]⟩, .string ⟨#[]⟩] 24)).drew)
      have MD := Lib.hid (ME.out wr.drew)
      have TA : Hid (∀ w4, Below (wr.alloc (.cells #[.string ⟨#[]⟩, .string ⟨#[]⟩] 24)).drew.heap.size (wr.alloc (.cells #[.string ⟨#[]⟩, .string ⟨#[]⟩] 24)).drew w4 →
          w4.cell? ⟨wr.heap.size, 0, none⟩ = some (.string ⟨#[]⟩) ∧ w4.cell? ⟨wr.heap.size, 1, none⟩ = some (.string ⟨#[]⟩) ∧ w4.frozen? ⟨wr.heap.size, 0, none⟩ = false ∧ w4.frozen? ⟨wr.heap.size, 1, none⟩ = false) := Lib.hid (fun w4 h =>
        ⟨bel_later h (rgcell (w := wr) ⟨#[]⟩ ⟨#[]⟩).1, bel_later h (rgcell (w := wr) ⟨#[]⟩ ⟨#[]⟩).2, (bel_frozen h (by simp)).trans (by simp [go_sem]), (bel_frozen h (by simp)).trans (by simp [go_sem])⟩)
      clear XB ME
      cases ok
      · have HS : Hid (rmt a b j (ps.drop j) = (s1, s2)) := Lib.hid (by rw [HST.out]; rfl)
        go_wp2_with fail
        go_region_law (first
          | (go_simp; go_at_call 26; ((with_reducible refine MA.out.mono ?_); rintro e w4 ⟨rfl, e4⟩; obtain ⟨t0, t1, t2, t3⟩ := TA.out w4 e4; have E4 : Hid (Below w3.heap.size w3 w4) := Lib.hid (BW.out.trans ((bel_ac e4).mono BW.out.size)); clear e4))
          | (go_simp; go_at_call 26; ((with_reducible refine MD.out.mono ?_); rintro e w4 ⟨rfl, e4⟩; have E4 : Hid (Below w3.heap.size w3 w4) := Lib.hid (BW.out.trans ((bel_dr e4).mono BW.out.size)); clear e4))
          | fail)
        all_goals
          go_wp2
          refine ⟨⟨j, by omega, rfl, ?_, ?_, ?_⟩, by simp [intOf] <;> omega⟩
          · rw [HS.out]
          · rw [HS.out] <;> rfl
          · first
              | exact bel_set2 E4.out (by have := BW.out.size; first | exact this | (simp; omega)) _ _
              | exact E4.out.alloc E4.out.size _
              | exact bel_set2 (E4.out.alloc E4.out.size _) (by have := E4.out.size; first | exact this | (simp; omega)) _ _
      · have HS : Hid (rmt a b j (ps.drop j) = (j, s2 + 1)) := Lib.hid (by rw [HST.out]; rfl)
        go_wp2_with fail
        go_region_law (first
          | (go_simp; go_at_call 26; ((with_reducible refine MA.out.mono ?_); rintro e w4 ⟨rfl, e4⟩; obtain ⟨t0, t1, t2, t3⟩ := TA.out w4 e4; have E4 : Hid (Below w3.heap.size w3 w4) := Lib.hid (BW.out.trans ((bel_ac e4).mono BW.out.size)); clear e4))
          | (go_simp; go_at_call 26; ((with_reducible refine MD.out.mono ?_); rintro e w4 ⟨rfl, e4⟩; have E4 : Hid (Below w3.heap.size w3 w4) := Lib.hid (BW.out.trans ((bel_dr e4).mono BW.out.size)); clear e4))
          | fail)
        all_goals
          go_wp2
          refine ⟨⟨j, by omega, rfl, ?_, ?_, ?_⟩, by simp [intOf] <;> omega⟩
          · rw [HS.out]
          · rw [HS.out] <;> rfl
          · first
              | exact bel_set2 E4.out (by have := BW.out.size; first | exact this | (simp; omega)) _ _
              | exact E4.out.alloc E4.out.size _
              | exact bel_set2 (E4.out.alloc E4.out.size _) (by have := E4.out.size; first | exact this | (simp; omega)) _ _
end Go.Proofs.Ytngldfheneegcaa
