/- The pieces of a range that may be: Pieces' walk. -/
import Derived.Test.YtchbenfpfemgnaaC1
namespace Go.Proofs.Ytchbenfpfemgnaa
set_option linter.unusedSimpArgs false
open Go.RowKit
set_option linter.unusedVariables false

set_option maxRecDepth 100000 in
set_option maxHeartbeats 4000000 in
theorem pieces_yes (f t : ByteArray) (E : Option Addr) (n c : Nat) (ends : List ByteArray) (w : World) (h : sb f t = true) (hl : ends.length = n) (hn : n ≤ 1000000) (hE : Rd w w.heap.size E (ends.map Value.string)) :
    Calls Try.prog 26 #[.agg #[.string f, .string t], .slice E n c] w (GotPieces (pcs f t ends) w) := by
  obtain ⟨i0, hi0, hz0, hz1, hz2⟩ := info_parts info28
  have HL := Lib.hid hl
  have HF : Hid (pcs f t ends = (pss f t ends).1 ++ [((pss f t ends).2, t)]) := Lib.hid (by unfold pcs; rw [if_pos h])
  have HSB := Lib.hid (fun k => pss_sb f t (ends.take k) h)
  have C := fun w => rightRange_at f t w
  rw [h] at C
  have CC := Lib.hid C
  clear C h hl
  go_enter Try.func26, Try.ntmps26
  go_wp2_with fail
  refine (CC.out _).mono ?_
  rintro e w1 ⟨rfl, rfl⟩
  go_wp2
  go_loopw [5, 16] (fun lv iv wr => ∃ k : Nat, k ≤ n ∧ iv = .int .i64 k ∧ PRel f t ends w k lv wr) (fun _ i _ => n - (intOf i).toNat)
  case atStart =>
    refine ⟨0, by omega, rfl, none, 0, rfl, World.ownsRow_nil _ _ _ _, by simp [Value.ownBlock], ?_, ?_, ?_, ?_, by go_grown⟩ <;> simp [go_sem, pss]
  case round =>
    obtain ⟨k, hk, rfl, A, cp, rfl, hown, hne, b0, b1, z0, z1, hB⟩ := hrel
    have hlen := pss_len f t (ends.take k)
    have hsb := HSB.out k
    obtain ⟨⟨acc, g⟩, hS⟩ : ∃ x, x = pss f t (ends.take k) := ⟨_, rfl⟩
    rw [← hS] at hown hne b0 hlen hsb ⊢
    simp only at hown hne b0 hlen hsb ⊢
    have hal : acc.length ≤ 1000000 := by rw [List.length_take] at hlen; omega
    by_cases h8 : k = n
    · have he : ends.take k = ends := by rw [h8, ← HL.out]; exact List.take_length
      rw [he] at hS
      have hkn : ¬ (k : Int) < (n : Int) := by omega
      have HSS : Hid (pcs f t ends = acc ++ [(g, t)]) := Lib.hid (by rw [HF.out, ← hS])
      have HN := Lib.hid hne
      have HO := Lib.hid hown
      clear hE he hS hlen hsb hne hown
      go_wp2_with (at_builtin; refine wpList_append_lies _ rfl (.tmp 34) (.tmp 36) _ rfl w.heap.size 28 i0 _ 2 32 Try.underlying39 hi0 hz0 hz1 hz2 rfl (by omega) (.slice A acc.length cp) acc.length (flat acc) rfl (HO.out.alloc _) ⟨wr.heap.size, 0, none⟩ 1 1 [.string g, .string t] rfl rfl (World.news_of_block (cs := #[.string g, .string t]) (t := 28) (fr := (0, 0)) (heap_alloc_new wr _)) (by simp [Value.oneCell']) (by omega) (by simp only [maxLen]; omega) (by omega) (by have := hB.size; simp; omega) (wr.heap.size + 1) (by simp) ?_; intro gg cap w2 hown2 hg2 hat2 hlt2)
      go_ret
      refine ⟨some ⟨gg, 0, none⟩, cap, by rw [HSS.out]; simp, ?_, ?_⟩
      · rw [HSS.out, flat_snoc]
        exact Rd.of_own (n := acc.length + 1) (c := cap) (e := 28) (base := w.heap.size) (size := 2) hown2 (by omega)
      · exact grown_bel (bel_alloc hB _) hg2 (HO.out.alloc _) (Nat.le_refl _) (bel_alloc hB _).size
    · have hkn : k < n := by omega
      have hk1 : (k : Int) < (n : Int) := by omega
      have hk0 : (0 : Int) ≤ (k : Int) := by omega
      have hkl : k < ends.length := by rw [HL.out]; exact hkn
      have gk : (ends.map Value.string)[k]? = some (.string ends[k]) := by rw [List.getElem?_map, List.getElem?_eq_getElem hkl]; rfl
      obtain ⟨b, off, rfl, hlt, hc⟩ := hE.get gk
      have e1 := bel_later hB hc
      have ts : pss f t (ends.take (k + 1)) = pst t (acc, g) ends[k] := by rw [List.take_succ_eq_append_getElem hkl, pss_snoc, ← hS]
      obtain ⟨x, hx⟩ : ∃ x, x = ends[k] := ⟨_, rfl⟩
      rw [← hx] at e1 ts
      have hsz := hB.size
      have hlN := World.block_lt_of_cell? wr _ b0
      by_cases q : lt g x = true ∧ sb x t = true
      · have TS : Hid (pss f t (ends.take (k + 1)) = (acc ++ [(g, x)], x)) := Lib.hid (by rw [ts]; unfold pst; rw [if_pos q])
        have S := Lib.hid (fun w => split_yes g t x w hsb q.1 q.2)
        have HN := Lib.hid hne
        have HO := Lib.hid hown
        clear hE hc gk hx ts hS hlen hsb hne hown q
        go_wp2_with fail
        refine (S.out _).mono ?_
        rintro e w1 ⟨rfl, hb⟩
        have hB1 := bel_step hB hb (Nat.le_refl _)
        have hown1 := own_bel HO.out hb
        have c0 : w1.cell? ⟨w.heap.size, 0, none⟩ = some (.string g) := bel_later hb b0
        have c1 : w1.cell? ⟨w.heap.size, 1, none⟩ = some (.string t) := bel_later hb b1
        have y0 : w1.frozen? ⟨w.heap.size, 0, none⟩ = false := (bel_frozen hb hlN).trans z0
        have y1 : w1.frozen? ⟨w.heap.size, 1, none⟩ = false := (bel_frozen hb hlN).trans z1
        have hl1 : w.heap.size < w1.heap.size := Nat.lt_of_lt_of_le hlN hb.size
        clear b0 b1 z0 z1 e1
        have hBa : Below w.heap.size w (((w1.alloc (.cells #[.string g, .string x] 28)).alloc (.cells #[.string x, .string t] 28)).alloc (.cells #[.string g, .string x] 28)) := bel_alloc (bel_alloc (bel_alloc hB1 _) _) _
        have HOA := Lib.hid (((hown1.alloc (.cells #[.string g, .string x] 28)).alloc (.cells #[.string x, .string t] 28)).alloc (.cells #[.string g, .string x] 28))
        have hW : Below w1.heap.size w1 (((w1.alloc (.cells #[.string g, .string x] 28)).alloc (.cells #[.string x, .string t] 28)).alloc (.cells #[.string g, .string x] 28)) := by go_grown
        have W0 := bel_later hW c0
        have W1 := bel_later hW c1
        have V0 := (bel_frozen hW hl1 (o := 0)).trans y0
        have V1 := (bel_frozen hW hl1 (o := 1)).trans y1
        have X0 : (((w1.alloc (.cells #[.string g, .string x] 28)).alloc (.cells #[.string x, .string t] 28)).alloc (.cells #[.string g, .string x] 28)).cell? ⟨w1.heap.size + 1, 0, none⟩ = some (.string x) := by simp [go_sem]
        have X1 : (((w1.alloc (.cells #[.string g, .string x] 28)).alloc (.cells #[.string x, .string t] 28)).alloc (.cells #[.string g, .string x] 28)).cell? ⟨w1.heap.size + 1, 1, none⟩ = some (.string t) := by simp [go_sem]
        have hX : w1.heap.size + 1 < (((w1.alloc (.cells #[.string g, .string x] 28)).alloc (.cells #[.string x, .string t] 28)).alloc (.cells #[.string g, .string x] 28)).heap.size := by simp
        have HN2 : Hid ((Value.slice A acc.length cp).ownBlock ≠ some (w1.heap.size + 1)) := Lib.hid (fun e => by have h1 := (HO.out.lt _ e).2; have h2 := hb.size; omega)
        have hWl : w.heap.size < (((w1.alloc (.cells #[.string g, .string x] 28)).alloc (.cells #[.string x, .string t] 28)).alloc (.cells #[.string g, .string x] 28)).heap.size := Nat.lt_of_lt_of_le hl1 hW.size
        clear hown1
        go_wp2_with (at_builtin; (refine wpList_append_lies _ rfl (.tmp 28) (.tmp 30) _ rfl w.heap.size 28 i0 _ 2 32 Try.underlying39 hi0 hz0 hz1 hz2 rfl (by omega) (.slice A acc.length cp) acc.length (flat acc) rfl HOA.out ⟨w1.heap.size + 1 + 1, 0, none⟩ 1 1 [.string g, .string x] rfl rfl (World.news_of_block (cs := #[.string g, .string x]) (t := 28) (fr := (0, 0)) (by simpa using heap_alloc_new ((w1.alloc (.cells #[.string g, .string x] 28)).alloc (.cells #[.string x, .string t] 28)) _)) (by simp [Value.oneCell']) (by omega) (by simp only [maxLen]; omega) (by omega) hBa.size (w1.heap.size + 1 + 1 + 1) (by simp) ?_; intro gg cap w2 hown2 hg2 hat2 hlt2); have d0 := (grown_far hg2 (o := 0) hWl HN.out).trans W0; have d1 := (grown_far hg2 (o := 1) hWl HN.out).trans W1; have d2 := (grown_far hg2 (o := 0) hX HN2.out).trans X0; have d3 := (grown_far hg2 (o := 1) hX HN2.out).trans X1; have d4 := (grown_ffar hg2 (o := 0) hWl HN.out).trans V0; have d5 := (grown_ffar hg2 (o := 1) hWl HN.out).trans V1)
        have hne3 : gg ≠ w.heap.size := by
          rcases hat2 with e | e
          · intro e2; exact HN.out (by rw [e, e2])
          · omega
        have hB2 : Below w.heap.size w w2 := grown_bel hBa hg2 HOA.out (Nat.le_refl _) hBa.size
        refine ⟨⟨k + 1, by omega, by simp, some ⟨gg, 0, none⟩, cap, ?_, ?_, ?_, ?_, ?_, ?_, ?_, ?_⟩, by simp [intOf]; omega⟩
        · rw [TS.out]; simp
        · rw [TS.out, flat_snoc]; simp only [List.length_append, List.length_cons, List.length_nil]
          exact own_set (own_set hown2 (by simp [Value.ownBlock]; exact hne3) _) (by simp [Value.ownBlock]; exact hne3) _
        · simp [Value.ownBlock]; exact hne3
        · rw [TS.out]; simp [go_sem, d0, d1]
        · simp [go_sem, d0, d1]
        · simp [go_sem, d4]
        · simp [go_sem, d5]
        · exact (hB2.setCell (p := ⟨w.heap.size, 0, none⟩) (Nat.le_refl _) _).setCell (p := ⟨w.heap.size, 1, none⟩) (Nat.le_refl _) _
      · have TS : Hid (pss f t (ends.take (k + 1)) = (acc, g)) := Lib.hid (by rw [ts]; unfold pst; rw [if_neg q])
        have S := Lib.hid (fun w => split_no g t x w (by
          cases q1 : lt g x
          · exact .inr (.inl rfl)
          · right; right
            cases q2 : sb x t
            · rfl
            · exact absurd ⟨q1, q2⟩ q))
        have HN := Lib.hid hne
        have HO := Lib.hid hown
        clear hE hc gk hx ts hS hlen hsb hne hown q
        go_wp2_with fail
        refine (S.out _).mono ?_
        rintro e w1 ⟨rfl, hb⟩
        have hB1 := bel_step hB hb (Nat.le_refl _)
        have hown1 := own_bel HO.out hb
        have c0 : w1.cell? ⟨w.heap.size, 0, none⟩ = some (.string g) := bel_later hb b0
        have c1 : w1.cell? ⟨w.heap.size, 1, none⟩ = some (.string t) := bel_later hb b1
        have y0 : w1.frozen? ⟨w.heap.size, 0, none⟩ = false := (bel_frozen hb hlN).trans z0
        have y1 : w1.frozen? ⟨w.heap.size, 1, none⟩ = false := (bel_frozen hb hlN).trans z1
        have hl1 : w.heap.size < w1.heap.size := Nat.lt_of_lt_of_le hlN hb.size
        have HO1 := Lib.hid hown1
        clear b0 b1 z0 z1 e1 hown1
        go_wp2
        have hW : Below w1.heap.size w1 ((w1.alloc (.cells #[.string emptyS, .string emptyS] 28)).alloc (.cells #[.string emptyS, .string emptyS] 28)) := by go_grown
        refine ⟨⟨k + 1, by omega, by simp, A, cp, by rw [TS.out], ?_, by rw [TS.out]; exact HN.out, ?_, ?_, ?_, ?_, bel_step hB1 hW (Nat.le_refl _)⟩, by simp [intOf]; omega⟩
        · rw [TS.out]; exact (HO1.out.alloc _).alloc _
        · rw [TS.out]; exact bel_later hW c0
        · exact bel_later hW c1
        · exact (bel_frozen hW hl1).trans y0
        · exact (bel_frozen hW hl1).trans y1
end Go.Proofs.Ytchbenfpfemgnaa
