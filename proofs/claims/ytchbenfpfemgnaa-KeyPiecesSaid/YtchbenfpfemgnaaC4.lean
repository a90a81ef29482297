/- The answer package's Pieces: its walk. -/
import Derived.Test.YtchbenfpfemgnaaC2
namespace Go.Proofs.Ytchbenfpfemgnaa
set_option linter.unusedSimpArgs false
open Go.RowKit
set_option linter.unusedVariables false

theorem at_exit {f : Exit → Act → World → Prop} {e : Exit} {a : Act} {W : World} (h : ∀ W2, W2 = W → f e a W2) : f e a W := h W rfl
theorem keepz {W w1 : World} (hb : Below W.heap.size W w1) (q : Nat) (u v : Value) (h0 : W.cell? ⟨q, 0, none⟩ = some u) (h1 : W.cell? ⟨q, 1, none⟩ = some v) (f0 : W.frozen? ⟨q, 0, none⟩ = false) (f1 : W.frozen? ⟨q, 1, none⟩ = false) :
    w1.cell? ⟨q, 0, none⟩ = some u ∧ w1.cell? ⟨q, 1, none⟩ = some v ∧ w1.frozen? ⟨q, 0, none⟩ = false ∧ w1.frozen? ⟨q, 1, none⟩ = false :=
  ⟨bel_later hb h0, bel_later hb h1, (bel_frozen hb (World.block_lt_of_cell? W _ h0)).trans f0, (bel_frozen hb (World.block_lt_of_cell? W _ h0)).trans f1⟩
set_option maxRecDepth 100000 in
set_option maxHeartbeats 4000000 in
theorem rpieces_yes (f t : ByteArray) (E : Option Addr) (n c : Nat) (ends : List ByteArray) (w : World) (h : sb f t = true) (hl : ends.length = n) (hn : n ≤ 1000000) (hE : Rd w w.heap.size E (ends.map Value.string)) :
    Calls Try.prog 28 #[.agg #[.string f, .string t], .slice E n c] w (GotPieces (pcs f t ends) w) := by
  obtain ⟨i0, hi0, hz0, hz1, hz2⟩ := info_parts info28
  have HL := Lib.hid hl
  have HF : Hid (pcs f t ends = (pss f t ends).1 ++ [((pss f t ends).2, t)]) := Lib.hid (by unfold pcs; rw [if_pos h])
  have HSB := Lib.hid (fun k => pss_sb f t (ends.take k) h)
  have C := fun w => rright_at f t w
  rw [h] at C
  have CC := Lib.hid C
  clear C h hl
  go_enter Try.func28, Try.ntmps28
  go_wp2_with fail
  refine (CC.out _).mono ?_
  rintro e w1 ⟨rfl, rfl⟩
  go_wp2
  go_loopw [5, 6] (fun lv iv wr => ∃ k : Nat, k ≤ n ∧ iv = .int .i64 k ∧ PRel f t ends w k lv wr) (fun _ i _ => n - (intOf i).toNat)
  case atStart =>
    refine ⟨0, by omega, rfl, some ⟨w.heap.size + 1, 0, none⟩, 0, rfl, (by simpa using World.ownsRow_made (w.alloc (.cells #[.string f, .string t] 28)) (base := w.heap.size) (e := 28) (size := 2) #[] 0 (by simp) (by decide) rfl : ((w.alloc (.cells #[.string f, .string t] 28)).alloc (.cells #[] 28)).ownsRow w.heap.size 28 2 (.slice (some ⟨w.heap.size + 1, 0, none⟩) 0 0) 0 []).alloc _, by simp [Value.ownBlock], ?_, ?_, ?_, ?_, by go_grown⟩ <;> simp [go_sem, pss]
  case round =>
    obtain ⟨k, hk, rfl, A, cp, rfl, hown, hne, b0, b1, z0, z1, hB⟩ := hrel
    have hlen := pss_len f t (ends.take k)
    have hsb := HSB.out k
    obtain ⟨⟨acc, g⟩, hS⟩ : ∃ x, x = pss f t (ends.take k) := ⟨_, rfl⟩
    rw [← hS] at hown hne b0 hlen hsb ⊢
    simp only at hown hne b0 hlen hsb ⊢
    have hal : acc.length ≤ 1000000 := by rw [List.length_take] at hlen; omega
    by_cases h8 : k = n
    · have he : ends.take k = ends := by rw [h8, ← HL.out]; exact List.take_length
      rw [he] at hS
      have hkn : ¬ (k : Int) < (n : Int) := by omega
      have HSS : Hid (pcs f t ends = acc ++ [(g, t)]) := Lib.hid (by rw [HF.out, ← hS])
      have HN := Lib.hid hne
      have HO := Lib.hid hown
      clear hE he hS hlen hsb hne hown
      go_wp2_with (at_builtin; refine wpList_append_lies _ rfl (.tmp 37) (.tmp 39) _ rfl w.heap.size 28 i0 _ 2 32 Try.underlying39 hi0 hz0 hz1 hz2 rfl (by omega) (.slice A acc.length cp) acc.length (flat acc) rfl (HO.out.alloc _) ⟨wr.heap.size, 0, none⟩ 1 1 [.string g, .string t] rfl rfl (World.news_of_block (cs := #[.string g, .string t]) (t := 28) (fr := (0, 0)) (heap_alloc_new wr _)) (by simp [Value.oneCell']) (by omega) (by simp only [maxLen]; omega) (by omega) (by have := hB.size; simp; omega) (wr.heap.size + 1) (by simp) ?_; intro gg cap w2 hown2 hg2 hat2 hlt2)
      go_ret
      refine ⟨some ⟨gg, 0, none⟩, cap, by rw [HSS.out]; simp, ?_, ?_⟩
      · rw [HSS.out, flat_snoc]
        exact Rd.of_own (n := acc.length + 1) (c := cap) (e := 28) (base := w.heap.size) (size := 2) hown2 (by omega)
      · exact grown_bel (bel_alloc hB _) hg2 (HO.out.alloc _) (Nat.le_refl _) (bel_alloc hB _).size
    · have hkn : k < n := by omega
      have hk1 : (k : Int) < (n : Int) := by omega
      have hk0 : (0 : Int) ≤ (k : Int) := by omega
      have hkl : k < ends.length := by rw [HL.out]; exact hkn
      have gk : (ends.map Value.string)[k]? = some (.string ends[k]) := by rw [List.getElem?_map, List.getElem?_eq_getElem hkl]; rfl
      obtain ⟨b, off, rfl, hlt, hc⟩ := hE.get gk
      have e1 := bel_later hB hc
      have ts : pss f t (ends.take (k + 1)) = pst t (acc, g) ends[k] := by rw [List.take_succ_eq_append_getElem hkl, pss_snoc, ← hS]
      obtain ⟨x, hx⟩ : ∃ x, x = ends[k] := ⟨_, rfl⟩
      rw [← hx] at e1 ts
      have hsz := hB.size
      have hlN := World.block_lt_of_cell? wr _ b0
      by_cases q : lt g x = true ∧ sb x t = true
      · have TS : Hid (pss f t (ends.take (k + 1)) = (acc ++ [(g, x)], x)) := Lib.hid (by rw [ts]; unfold pst; rw [if_pos q])
        have S := Lib.hid (fun w => rsplit_yes g t x w hsb q.1 q.2)
        have HN := Lib.hid hne
        have HO := Lib.hid hown
        clear hE hc gk hx ts hS hlen hsb hne hown q
        go_wp2_with fail
        have kp : ∀ W, Below wr.heap.size wr W → (Below wr.heap.size wr W ∧ W.cell? ⟨b, off + k, none⟩ = some (.string x) ∧ W.cell? ⟨w.heap.size, 0, none⟩ = some (.string g) ∧ W.cell? ⟨w.heap.size, 1, none⟩ = some (.string t)) := fun W h => ⟨h, bel_later h e1, bel_later h b0, bel_later h b1⟩
        have KP := Lib.hid kp
        clear kp
        go_region_held3 (fun W => Below wr.heap.size wr W ∧ W.cell? ⟨b, off + k, none⟩ = some (.string x) ∧ W.cell? ⟨w.heap.size, 0, none⟩ = some (.string g) ∧ W.cell? ⟨w.heap.size, 1, none⟩ = some (.string t))
          (exact KP.out _ (by go_grown))
          (first
            | (go_at_call 18; (with_reducible refine (S.out (((wr.alloc (.cells #[.string ⟨#[]⟩, .string ⟨#[]⟩] 28)).alloc (.cells #[.string ⟨#[]⟩, .string ⟨#[]⟩] 28)).drew)).mono ?_); rintro e w1 ⟨rfl, hb⟩; have hbw : Below wr.heap.size wr w1 := Below.trans (by go_grown) (hb.mono (by simp; try omega)); have hbs : wr.heap.size ≤ w1.heap.size := hbw.size; obtain ⟨n0, n1, n2, n3⟩ := keepz hb wr.heap.size (.string ⟨#[]⟩) (.string ⟨#[]⟩) (by simp [go_sem]) (by simp [go_sem]) (by simp [go_sem]) (by simp [go_sem]); have j1 := World.block_lt_of_cell? w1 _ n0; have j2 : wr.heap.size ≠ w1.heap.size := Nat.ne_of_lt j1; have j3 : w1.heap.size ≠ wr.heap.size := fun e => j2 e.symm; obtain ⟨m0, m1, m2, m3⟩ := keepz hb (wr.heap.size + 1) (.string ⟨#[]⟩) (.string ⟨#[]⟩) (by simp [go_sem]) (by simp [go_sem]) (by simp [go_sem]) (by simp [go_sem]); have j4 := World.block_lt_of_cell? w1 _ m0; have j5 : wr.heap.size + 1 ≠ w1.heap.size := Nat.ne_of_lt j4; have j6 : w1.heap.size ≠ wr.heap.size + 1 := fun e => j5 e.symm)
            | (go_at_call 18; (with_reducible refine (S.out ((wr.alloc (.cells #[.string ⟨#[]⟩, .string ⟨#[]⟩] 28)).drew)).mono ?_); rintro e w1 ⟨rfl, hb⟩; have hbw : Below wr.heap.size wr w1 := Below.trans (by go_grown) (hb.mono (by simp; try omega)); have hbs : wr.heap.size ≤ w1.heap.size := hbw.size; obtain ⟨n0, n1, n2, n3⟩ := keepz hb wr.heap.size (.string ⟨#[]⟩) (.string ⟨#[]⟩) (by simp [go_sem]) (by simp [go_sem]) (by simp [go_sem]) (by simp [go_sem]); have j1 := World.block_lt_of_cell? w1 _ n0; have j2 : wr.heap.size ≠ w1.heap.size := Nat.ne_of_lt j1; have j3 : w1.heap.size ≠ wr.heap.size := fun e => j2 e.symm)
            | (go_at_call 18; (with_reducible refine (S.out _).mono ?_); rintro e w1 ⟨rfl, hb⟩; have hbw : Below wr.heap.size wr w1 := Below.trans (by go_grown) (hb.mono (by simp; try omega)); have hbs : wr.heap.size ≤ w1.heap.size := hbw.size))
        · refine at_exit (fun W2 hW => ?_)
          have hH : Below wr.heap.size wr W2 := by rw [hW]; go_grown
          have c70 : W2.cell? ⟨w1.heap.size, 0, none⟩ = some (.string g) := by rw [hW]; first | (simp [go_sem]; done) | (simp [go_sem, *]; done)
          have c71 : W2.cell? ⟨w1.heap.size, 1, none⟩ = some (.string x) := by rw [hW]; first | (simp [go_sem]; done) | (simp [go_sem, *]; done)
          have c80 : W2.cell? ⟨w1.heap.size + 1, 0, none⟩ = some (.string x) := by rw [hW]; first | (simp [go_sem]; done) | (simp [go_sem, *]; done)
          have c81 : W2.cell? ⟨w1.heap.size + 1, 1, none⟩ = some (.string t) := by rw [hW]; first | (simp [go_sem]; done) | (simp [go_sem, *]; done)
          have hq8 : w1.heap.size + 1 < W2.heap.size := World.block_lt_of_cell? W2 _ c80
          have hl2 : w.heap.size < W2.heap.size := Nat.lt_of_lt_of_le hlN hH.size
          have hB2 := bel_step hB hH (Nat.le_refl _)
          have HO2 := Lib.hid (own_bel HO.out hH)
          have C0 : W2.cell? ⟨w.heap.size, 0, none⟩ = some (.string g) := bel_later hH b0
          have C1 : W2.cell? ⟨w.heap.size, 1, none⟩ = some (.string t) := bel_later hH b1
          have Y0 : W2.frozen? ⟨w.heap.size, 0, none⟩ = false := (bel_frozen hH hlN).trans z0
          have Y1 : W2.frozen? ⟨w.heap.size, 1, none⟩ = false := (bel_frozen hH hlN).trans z1
          have HN2 : Hid ((Value.slice A acc.length cp).ownBlock ≠ some (w1.heap.size + 1)) := Lib.hid (fun e => by have h1 := (HO.out.lt _ e).2; have h2 := hbs; omega)
          have hWa : Below W2.heap.size W2 (W2.alloc (.cells #[.string g, .string x] 28)) := by go_grown
          have W0 := bel_later hWa C0
          have W1 := bel_later hWa C1
          have V0 := (bel_frozen hWa hl2 (o := 0)).trans Y0
          have V1 := (bel_frozen hWa hl2 (o := 1)).trans Y1
          have X0 := bel_later hWa c80
          have X1 := bel_later hWa c81
          have hWl : w.heap.size < (W2.alloc (.cells #[.string g, .string x] 28)).heap.size := Nat.lt_of_lt_of_le hl2 hWa.size
          have hX : w1.heap.size + 1 < (W2.alloc (.cells #[.string g, .string x] 28)).heap.size := Nat.lt_of_lt_of_le hq8 hWa.size
          have hBa : Below w.heap.size w (W2.alloc (.cells #[.string g, .string x] 28)) := bel_alloc hB2 _
          have HOA := Lib.hid (HO2.out.alloc (.cells #[.string g, .string x] 28))
          clear hW e1 b0 b1 z0 z1 KP hb hbw C0 C1 Y0 Y1
          go_wp2_with (at_builtin; refine wpList_append_lies _ rfl (.tmp 32) (.tmp 34) _ rfl w.heap.size 28 i0 _ 2 32 Try.underlying39 hi0 hz0 hz1 hz2 rfl (by omega) (.slice A acc.length cp) acc.length (flat acc) rfl HOA.out ⟨W2.heap.size, 0, none⟩ 1 1 [.string g, .string x] rfl rfl (World.news_of_block (cs := #[.string g, .string x]) (t := 28) (fr := (0, 0)) (heap_alloc_new W2 _)) (by simp [Value.oneCell']) (by omega) (by simp only [maxLen]; omega) (by omega) hBa.size (W2.heap.size + 1) (by simp) ?_; intro gg cap w2 hown2 hg2 hat2 hlt2; have d0 := (grown_far hg2 (o := 0) hWl HN.out).trans W0; have d1 := (grown_far hg2 (o := 1) hWl HN.out).trans W1; have d2 := (grown_far hg2 (o := 0) hX HN2.out).trans X0; have d3 := (grown_far hg2 (o := 1) hX HN2.out).trans X1; have d4 := (grown_ffar hg2 (o := 0) hWl HN.out).trans V0; have d5 := (grown_ffar hg2 (o := 1) hWl HN.out).trans V1)
          have hne3 : gg ≠ w.heap.size := by
            rcases hat2 with e | e
            · intro e2; exact HN.out (by rw [e, e2])
            · omega
          have hB3 : Below w.heap.size w w2 := grown_bel hBa hg2 HOA.out (Nat.le_refl _) hBa.size
          refine ⟨⟨k + 1, by omega, by simp, some ⟨gg, 0, none⟩, cap, ?_, ?_, ?_, ?_, ?_, ?_, ?_, ?_⟩, by simp [intOf]; omega⟩
          · rw [TS.out]; simp
          · rw [TS.out, flat_snoc]; simp only [List.length_append, List.length_cons, List.length_nil]
            exact own_set (own_set hown2 (by simp [Value.ownBlock]; exact hne3) _) (by simp [Value.ownBlock]; exact hne3) _
          · simp [Value.ownBlock]; exact hne3
          · rw [TS.out]; simp [go_sem, d0, d1]
          · simp [go_sem, d0, d1]
          · simp [go_sem, d4]
          · simp [go_sem, d5]
          · exact (hB3.setCell (p := ⟨w.heap.size, 0, none⟩) (Nat.le_refl _) _).setCell (p := ⟨w.heap.size, 1, none⟩) (Nat.le_refl _) _
        · refine at_exit (fun W2 hW => ?_)
          have hH : Below wr.heap.size wr W2 := by rw [hW]; go_grown
          have c70 : W2.cell? ⟨w1.heap.size + 1, 0, none⟩ = some (.string g) := by rw [hW]; first | (simp [go_sem]; done) | (simp [go_sem, *]; done)
          have c71 : W2.cell? ⟨w1.heap.size + 1, 1, none⟩ = some (.string x) := by rw [hW]; first | (simp [go_sem]; done) | (simp [go_sem, *]; done)
          have c80 : W2.cell? ⟨w1.heap.size, 0, none⟩ = some (.string x) := by rw [hW]; first | (simp [go_sem]; done) | (simp [go_sem, *]; done)
          have c81 : W2.cell? ⟨w1.heap.size, 1, none⟩ = some (.string t) := by rw [hW]; first | (simp [go_sem]; done) | (simp [go_sem, *]; done)
          have hq8 : w1.heap.size < W2.heap.size := World.block_lt_of_cell? W2 _ c80
          have hl2 : w.heap.size < W2.heap.size := Nat.lt_of_lt_of_le hlN hH.size
          have hB2 := bel_step hB hH (Nat.le_refl _)
          have HO2 := Lib.hid (own_bel HO.out hH)
          have C0 : W2.cell? ⟨w.heap.size, 0, none⟩ = some (.string g) := bel_later hH b0
          have C1 : W2.cell? ⟨w.heap.size, 1, none⟩ = some (.string t) := bel_later hH b1
          have Y0 : W2.frozen? ⟨w.heap.size, 0, none⟩ = false := (bel_frozen hH hlN).trans z0
          have Y1 : W2.frozen? ⟨w.heap.size, 1, none⟩ = false := (bel_frozen hH hlN).trans z1
          have HN2 : Hid ((Value.slice A acc.length cp).ownBlock ≠ some (w1.heap.size)) := Lib.hid (fun e => by have h1 := (HO.out.lt _ e).2; have h2 := hbs; omega)
          have hWa : Below W2.heap.size W2 (W2.alloc (.cells #[.string g, .string x] 28)) := by go_grown
          have W0 := bel_later hWa C0
          have W1 := bel_later hWa C1
          have V0 := (bel_frozen hWa hl2 (o := 0)).trans Y0
          have V1 := (bel_frozen hWa hl2 (o := 1)).trans Y1
          have X0 := bel_later hWa c80
          have X1 := bel_later hWa c81
          have hWl : w.heap.size < (W2.alloc (.cells #[.string g, .string x] 28)).heap.size := Nat.lt_of_lt_of_le hl2 hWa.size
          have hX : w1.heap.size < (W2.alloc (.cells #[.string g, .string x] 28)).heap.size := Nat.lt_of_lt_of_le hq8 hWa.size
          have hBa : Below w.heap.size w (W2.alloc (.cells #[.string g, .string x] 28)) := bel_alloc hB2 _
          have HOA := Lib.hid (HO2.out.alloc (.cells #[.string g, .string x] 28))
          clear hW e1 b0 b1 z0 z1 KP hb hbw C0 C1 Y0 Y1
          go_wp2_with (at_builtin; refine wpList_append_lies _ rfl (.tmp 32) (.tmp 34) _ rfl w.heap.size 28 i0 _ 2 32 Try.underlying39 hi0 hz0 hz1 hz2 rfl (by omega) (.slice A acc.length cp) acc.length (flat acc) rfl HOA.out ⟨W2.heap.size, 0, none⟩ 1 1 [.string g, .string x] rfl rfl (World.news_of_block (cs := #[.string g, .string x]) (t := 28) (fr := (0, 0)) (heap_alloc_new W2 _)) (by simp [Value.oneCell']) (by omega) (by simp only [maxLen]; omega) (by omega) hBa.size (W2.heap.size + 1) (by simp) ?_; intro gg cap w2 hown2 hg2 hat2 hlt2; have d0 := (grown_far hg2 (o := 0) hWl HN.out).trans W0; have d1 := (grown_far hg2 (o := 1) hWl HN.out).trans W1; have d2 := (grown_far hg2 (o := 0) hX HN2.out).trans X0; have d3 := (grown_far hg2 (o := 1) hX HN2.out).trans X1; have d4 := (grown_ffar hg2 (o := 0) hWl HN.out).trans V0; have d5 := (grown_ffar hg2 (o := 1) hWl HN.out).trans V1)
          have hne3 : gg ≠ w.heap.size := by
            rcases hat2 with e | e
            · intro e2; exact HN.out (by rw [e, e2])
            · omega
          have hB3 : Below w.heap.size w w2 := grown_bel hBa hg2 HOA.out (Nat.le_refl _) hBa.size
          refine ⟨⟨k + 1, by omega, by simp, some ⟨gg, 0, none⟩, cap, ?_, ?_, ?_, ?_, ?_, ?_, ?_, ?_⟩, by simp [intOf]; omega⟩
          · rw [TS.out]; simp
          · rw [TS.out, flat_snoc]; simp only [List.length_append, List.length_cons, List.length_nil]
            exact own_set (own_set hown2 (by simp [Value.ownBlock]; exact hne3) _) (by simp [Value.ownBlock]; exact hne3) _
          · simp [Value.ownBlock]; exact hne3
          · rw [TS.out]; simp [go_sem, d0, d1]
          · simp [go_sem, d0, d1]
          · simp [go_sem, d4]
          · simp [go_sem, d5]
          · exact (hB3.setCell (p := ⟨w.heap.size, 0, none⟩) (Nat.le_refl _) _).setCell (p := ⟨w.heap.size, 1, none⟩) (Nat.le_refl _) _
        · refine at_exit (fun W2 hW => ?_)
          have hH : Below wr.heap.size wr W2 := by rw [hW]; go_grown
          have c70 : W2.cell? ⟨wr.heap.size, 0, none⟩ = some (.string g) := by rw [hW]; first | (simp [go_sem]; done) | (simp [go_sem, *]; done)
          have c71 : W2.cell? ⟨wr.heap.size, 1, none⟩ = some (.string x) := by rw [hW]; first | (simp [go_sem]; done) | (simp [go_sem, *]; done)
          have c80 : W2.cell? ⟨w1.heap.size, 0, none⟩ = some (.string x) := by rw [hW]; first | (simp [go_sem]; done) | (simp [go_sem, *]; done)
          have c81 : W2.cell? ⟨w1.heap.size, 1, none⟩ = some (.string t) := by rw [hW]; first | (simp [go_sem]; done) | (simp [go_sem, *]; done)
          have hq8 : w1.heap.size < W2.heap.size := World.block_lt_of_cell? W2 _ c80
          have hl2 : w.heap.size < W2.heap.size := Nat.lt_of_lt_of_le hlN hH.size
          have hB2 := bel_step hB hH (Nat.le_refl _)
          have HO2 := Lib.hid (own_bel HO.out hH)
          have C0 : W2.cell? ⟨w.heap.size, 0, none⟩ = some (.string g) := bel_later hH b0
          have C1 : W2.cell? ⟨w.heap.size, 1, none⟩ = some (.string t) := bel_later hH b1
          have Y0 : W2.frozen? ⟨w.heap.size, 0, none⟩ = false := (bel_frozen hH hlN).trans z0
          have Y1 : W2.frozen? ⟨w.heap.size, 1, none⟩ = false := (bel_frozen hH hlN).trans z1
          have HN2 : Hid ((Value.slice A acc.length cp).ownBlock ≠ some (w1.heap.size)) := Lib.hid (fun e => by have h1 := (HO.out.lt _ e).2; have h2 := hbs; omega)
          have hWa : Below W2.heap.size W2 (W2.alloc (.cells #[.string g, .string x] 28)) := by go_grown
          have W0 := bel_later hWa C0
          have W1 := bel_later hWa C1
          have V0 := (bel_frozen hWa hl2 (o := 0)).trans Y0
          have V1 := (bel_frozen hWa hl2 (o := 1)).trans Y1
          have X0 := bel_later hWa c80
          have X1 := bel_later hWa c81
          have hWl : w.heap.size < (W2.alloc (.cells #[.string g, .string x] 28)).heap.size := Nat.lt_of_lt_of_le hl2 hWa.size
          have hX : w1.heap.size < (W2.alloc (.cells #[.string g, .string x] 28)).heap.size := Nat.lt_of_lt_of_le hq8 hWa.size
          have hBa : Below w.heap.size w (W2.alloc (.cells #[.string g, .string x] 28)) := bel_alloc hB2 _
          have HOA := Lib.hid (HO2.out.alloc (.cells #[.string g, .string x] 28))
          clear hW e1 b0 b1 z0 z1 KP hb hbw C0 C1 Y0 Y1
          go_wp2_with (at_builtin; refine wpList_append_lies _ rfl (.tmp 32) (.tmp 34) _ rfl w.heap.size 28 i0 _ 2 32 Try.underlying39 hi0 hz0 hz1 hz2 rfl (by omega) (.slice A acc.length cp) acc.length (flat acc) rfl HOA.out ⟨W2.heap.size, 0, none⟩ 1 1 [.string g, .string x] rfl rfl (World.news_of_block (cs := #[.string g, .string x]) (t := 28) (fr := (0, 0)) (heap_alloc_new W2 _)) (by simp [Value.oneCell']) (by omega) (by simp only [maxLen]; omega) (by omega) hBa.size (W2.heap.size + 1) (by simp) ?_; intro gg cap w2 hown2 hg2 hat2 hlt2; have d0 := (grown_far hg2 (o := 0) hWl HN.out).trans W0; have d1 := (grown_far hg2 (o := 1) hWl HN.out).trans W1; have d2 := (grown_far hg2 (o := 0) hX HN2.out).trans X0; have d3 := (grown_far hg2 (o := 1) hX HN2.out).trans X1; have d4 := (grown_ffar hg2 (o := 0) hWl HN.out).trans V0; have d5 := (grown_ffar hg2 (o := 1) hWl HN.out).trans V1)
          have hne3 : gg ≠ w.heap.size := by
            rcases hat2 with e | e
            · intro e2; exact HN.out (by rw [e, e2])
            · omega
          have hB3 : Below w.heap.size w w2 := grown_bel hBa hg2 HOA.out (Nat.le_refl _) hBa.size
          refine ⟨⟨k + 1, by omega, by simp, some ⟨gg, 0, none⟩, cap, ?_, ?_, ?_, ?_, ?_, ?_, ?_, ?_⟩, by simp [intOf]; omega⟩
          · rw [TS.out]; simp
          · rw [TS.out, flat_snoc]; simp only [List.length_append, List.length_cons, List.length_nil]
            exact own_set (own_set hown2 (by simp [Value.ownBlock]; exact hne3) _) (by simp [Value.ownBlock]; exact hne3) _
          · simp [Value.ownBlock]; exact hne3
          · rw [TS.out]; simp [go_sem, d0, d1]
          · simp [go_sem, d0, d1]
          · simp [go_sem, d4]
          · simp [go_sem, d5]
          · exact (hB3.setCell (p := ⟨w.heap.size, 0, none⟩) (Nat.le_refl _) _).setCell (p := ⟨w.heap.size, 1, none⟩) (Nat.le_refl _) _
        · refine at_exit (fun W2 hW => ?_)
          have hH : Below wr.heap.size wr W2 := by rw [hW]; go_grown
          have c70 : W2.cell? ⟨wr.heap.size, 0, none⟩ = some (.string g) := by rw [hW]; first | (simp [go_sem]; done) | (simp [go_sem, *]; done)
          have c71 : W2.cell? ⟨wr.heap.size, 1, none⟩ = some (.string x) := by rw [hW]; first | (simp [go_sem]; done) | (simp [go_sem, *]; done)
          have c80 : W2.cell? ⟨wr.heap.size + 1, 0, none⟩ = some (.string x) := by rw [hW]; first | (simp [go_sem]; done) | (simp [go_sem, *]; done)
          have c81 : W2.cell? ⟨wr.heap.size + 1, 1, none⟩ = some (.string t) := by rw [hW]; first | (simp [go_sem]; done) | (simp [go_sem, *]; done)
          have hq8 : wr.heap.size + 1 < W2.heap.size := World.block_lt_of_cell? W2 _ c80
          have hl2 : w.heap.size < W2.heap.size := Nat.lt_of_lt_of_le hlN hH.size
          have hB2 := bel_step hB hH (Nat.le_refl _)
          have HO2 := Lib.hid (own_bel HO.out hH)
          have C0 : W2.cell? ⟨w.heap.size, 0, none⟩ = some (.string g) := bel_later hH b0
          have C1 : W2.cell? ⟨w.heap.size, 1, none⟩ = some (.string t) := bel_later hH b1
          have Y0 : W2.frozen? ⟨w.heap.size, 0, none⟩ = false := (bel_frozen hH hlN).trans z0
          have Y1 : W2.frozen? ⟨w.heap.size, 1, none⟩ = false := (bel_frozen hH hlN).trans z1
          have HN2 : Hid ((Value.slice A acc.length cp).ownBlock ≠ some (wr.heap.size + 1)) := Lib.hid (fun e => by have h1 := (HO.out.lt _ e).2; have h2 := hbs; omega)
          have hWa : Below W2.heap.size W2 (W2.alloc (.cells #[.string g, .string x] 28)) := by go_grown
          have W0 := bel_later hWa C0
          have W1 := bel_later hWa C1
          have V0 := (bel_frozen hWa hl2 (o := 0)).trans Y0
          have V1 := (bel_frozen hWa hl2 (o := 1)).trans Y1
          have X0 := bel_later hWa c80
          have X1 := bel_later hWa c81
          have hWl : w.heap.size < (W2.alloc (.cells #[.string g, .string x] 28)).heap.size := Nat.lt_of_lt_of_le hl2 hWa.size
          have hX : wr.heap.size + 1 < (W2.alloc (.cells #[.string g, .string x] 28)).heap.size := Nat.lt_of_lt_of_le hq8 hWa.size
          have hBa : Below w.heap.size w (W2.alloc (.cells #[.string g, .string x] 28)) := bel_alloc hB2 _
          have HOA := Lib.hid (HO2.out.alloc (.cells #[.string g, .string x] 28))
          clear hW e1 b0 b1 z0 z1 KP hb hbw C0 C1 Y0 Y1
          go_wp2_with (at_builtin; refine wpList_append_lies _ rfl (.tmp 32) (.tmp 34) _ rfl w.heap.size 28 i0 _ 2 32 Try.underlying39 hi0 hz0 hz1 hz2 rfl (by omega) (.slice A acc.length cp) acc.length (flat acc) rfl HOA.out ⟨W2.heap.size, 0, none⟩ 1 1 [.string g, .string x] rfl rfl (World.news_of_block (cs := #[.string g, .string x]) (t := 28) (fr := (0, 0)) (heap_alloc_new W2 _)) (by simp [Value.oneCell']) (by omega) (by simp only [maxLen]; omega) (by omega) hBa.size (W2.heap.size + 1) (by simp) ?_; intro gg cap w2 hown2 hg2 hat2 hlt2; have d0 := (grown_far hg2 (o := 0) hWl HN.out).trans W0; have d1 := (grown_far hg2 (o := 1) hWl HN.out).trans W1; have d2 := (grown_far hg2 (o := 0) hX HN2.out).trans X0; have d3 := (grown_far hg2 (o := 1) hX HN2.out).trans X1; have d4 := (grown_ffar hg2 (o := 0) hWl HN.out).trans V0; have d5 := (grown_ffar hg2 (o := 1) hWl HN.out).trans V1)
          have hne3 : gg ≠ w.heap.size := by
            rcases hat2 with e | e
            · intro e2; exact HN.out (by rw [e, e2])
            · omega
          have hB3 : Below w.heap.size w w2 := grown_bel hBa hg2 HOA.out (Nat.le_refl _) hBa.size
          refine ⟨⟨k + 1, by omega, by simp, some ⟨gg, 0, none⟩, cap, ?_, ?_, ?_, ?_, ?_, ?_, ?_, ?_⟩, by simp [intOf]; omega⟩
          · rw [TS.out]; simp
          · rw [TS.out, flat_snoc]; simp only [List.length_append, List.length_cons, List.length_nil]
            exact own_set (own_set hown2 (by simp [Value.ownBlock]; exact hne3) _) (by simp [Value.ownBlock]; exact hne3) _
          · simp [Value.ownBlock]; exact hne3
          · rw [TS.out]; simp [go_sem, d0, d1]
          · simp [go_sem, d0, d1]
          · simp [go_sem, d4]
          · simp [go_sem, d5]
          · exact (hB3.setCell (p := ⟨w.heap.size, 0, none⟩) (Nat.le_refl _) _).setCell (p := ⟨w.heap.size, 1, none⟩) (Nat.le_refl _) _
        · refine at_exit (fun W2 hW => ?_)
          have hH : Below wr.heap.size wr W2 := by rw [hW]; go_grown
          have c70 : W2.cell? ⟨w1.heap.size, 0, none⟩ = some (.string g) := by rw [hW]; first | (simp [go_sem]; done) | (simp [go_sem, *]; done)
          have c71 : W2.cell? ⟨w1.heap.size, 1, none⟩ = some (.string x) := by rw [hW]; first | (simp [go_sem]; done) | (simp [go_sem, *]; done)
          have c80 : W2.cell? ⟨wr.heap.size, 0, none⟩ = some (.string x) := by rw [hW]; first | (simp [go_sem]; done) | (simp [go_sem, *]; done)
          have c81 : W2.cell? ⟨wr.heap.size, 1, none⟩ = some (.string t) := by rw [hW]; first | (simp [go_sem]; done) | (simp [go_sem, *]; done)
          have hq8 : wr.heap.size < W2.heap.size := World.block_lt_of_cell? W2 _ c80
          have hl2 : w.heap.size < W2.heap.size := Nat.lt_of_lt_of_le hlN hH.size
          have hB2 := bel_step hB hH (Nat.le_refl _)
          have HO2 := Lib.hid (own_bel HO.out hH)
          have C0 : W2.cell? ⟨w.heap.size, 0, none⟩ = some (.string g) := bel_later hH b0
          have C1 : W2.cell? ⟨w.heap.size, 1, none⟩ = some (.string t) := bel_later hH b1
          have Y0 : W2.frozen? ⟨w.heap.size, 0, none⟩ = false := (bel_frozen hH hlN).trans z0
          have Y1 : W2.frozen? ⟨w.heap.size, 1, none⟩ = false := (bel_frozen hH hlN).trans z1
          have HN2 : Hid ((Value.slice A acc.length cp).ownBlock ≠ some (wr.heap.size)) := Lib.hid (fun e => by have h1 := (HO.out.lt _ e).2; have h2 := hbs; omega)
          have hWa : Below W2.heap.size W2 (W2.alloc (.cells #[.string g, .string x] 28)) := by go_grown
          have W0 := bel_later hWa C0
          have W1 := bel_later hWa C1
          have V0 := (bel_frozen hWa hl2 (o := 0)).trans Y0
          have V1 := (bel_frozen hWa hl2 (o := 1)).trans Y1
          have X0 := bel_later hWa c80
          have X1 := bel_later hWa c81
          have hWl : w.heap.size < (W2.alloc (.cells #[.string g, .string x] 28)).heap.size := Nat.lt_of_lt_of_le hl2 hWa.size
          have hX : wr.heap.size < (W2.alloc (.cells #[.string g, .string x] 28)).heap.size := Nat.lt_of_lt_of_le hq8 hWa.size
          have hBa : Below w.heap.size w (W2.alloc (.cells #[.string g, .string x] 28)) := bel_alloc hB2 _
          have HOA := Lib.hid (HO2.out.alloc (.cells #[.string g, .string x] 28))
          clear hW e1 b0 b1 z0 z1 KP hb hbw C0 C1 Y0 Y1
          go_wp2_with (at_builtin; refine wpList_append_lies _ rfl (.tmp 32) (.tmp 34) _ rfl w.heap.size 28 i0 _ 2 32 Try.underlying39 hi0 hz0 hz1 hz2 rfl (by omega) (.slice A acc.length cp) acc.length (flat acc) rfl HOA.out ⟨W2.heap.size, 0, none⟩ 1 1 [.string g, .string x] rfl rfl (World.news_of_block (cs := #[.string g, .string x]) (t := 28) (fr := (0, 0)) (heap_alloc_new W2 _)) (by simp [Value.oneCell']) (by omega) (by simp only [maxLen]; omega) (by omega) hBa.size (W2.heap.size + 1) (by simp) ?_; intro gg cap w2 hown2 hg2 hat2 hlt2; have d0 := (grown_far hg2 (o := 0) hWl HN.out).trans W0; have d1 := (grown_far hg2 (o := 1) hWl HN.out).trans W1; have d2 := (grown_far hg2 (o := 0) hX HN2.out).trans X0; have d3 := (grown_far hg2 (o := 1) hX HN2.out).trans X1; have d4 := (grown_ffar hg2 (o := 0) hWl HN.out).trans V0; have d5 := (grown_ffar hg2 (o := 1) hWl HN.out).trans V1)
          have hne3 : gg ≠ w.heap.size := by
            rcases hat2 with e | e
            · intro e2; exact HN.out (by rw [e, e2])
            · omega
          have hB3 : Below w.heap.size w w2 := grown_bel hBa hg2 HOA.out (Nat.le_refl _) hBa.size
          refine ⟨⟨k + 1, by omega, by simp, some ⟨gg, 0, none⟩, cap, ?_, ?_, ?_, ?_, ?_, ?_, ?_, ?_⟩, by simp [intOf]; omega⟩
          · rw [TS.out]; simp
          · rw [TS.out, flat_snoc]; simp only [List.length_append, List.length_cons, List.length_nil]
            exact own_set (own_set hown2 (by simp [Value.ownBlock]; exact hne3) _) (by simp [Value.ownBlock]; exact hne3) _
          · simp [Value.ownBlock]; exact hne3
          · rw [TS.out]; simp [go_sem, d0, d1]
          · simp [go_sem, d0, d1]
          · simp [go_sem, d4]
          · simp [go_sem, d5]
          · exact (hB3.setCell (p := ⟨w.heap.size, 0, none⟩) (Nat.le_refl _) _).setCell (p := ⟨w.heap.size, 1, none⟩) (Nat.le_refl _) _
        · refine at_exit (fun W2 hW => ?_)
          have hH : Below wr.heap.size wr W2 := by rw [hW]; go_grown
          have c70 : W2.cell? ⟨wr.heap.size + 1, 0, none⟩ = some (.string g) := by rw [hW]; first | (simp [go_sem]; done) | (simp [go_sem, *]; done)
          have c71 : W2.cell? ⟨wr.heap.size + 1, 1, none⟩ = some (.string x) := by rw [hW]; first | (simp [go_sem]; done) | (simp [go_sem, *]; done)
          have c80 : W2.cell? ⟨wr.heap.size, 0, none⟩ = some (.string x) := by rw [hW]; first | (simp [go_sem]; done) | (simp [go_sem, *]; done)
          have c81 : W2.cell? ⟨wr.heap.size, 1, none⟩ = some (.string t) := by rw [hW]; first | (simp [go_sem]; done) | (simp [go_sem, *]; done)
          have hq8 : wr.heap.size < W2.heap.size := World.block_lt_of_cell? W2 _ c80
          have hl2 : w.heap.size < W2.heap.size := Nat.lt_of_lt_of_le hlN hH.size
          have hB2 := bel_step hB hH (Nat.le_refl _)
          have HO2 := Lib.hid (own_bel HO.out hH)
          have C0 : W2.cell? ⟨w.heap.size, 0, none⟩ = some (.string g) := bel_later hH b0
          have C1 : W2.cell? ⟨w.heap.size, 1, none⟩ = some (.string t) := bel_later hH b1
          have Y0 : W2.frozen? ⟨w.heap.size, 0, none⟩ = false := (bel_frozen hH hlN).trans z0
          have Y1 : W2.frozen? ⟨w.heap.size, 1, none⟩ = false := (bel_frozen hH hlN).trans z1
          have HN2 : Hid ((Value.slice A acc.length cp).ownBlock ≠ some (wr.heap.size)) := Lib.hid (fun e => by have h1 := (HO.out.lt _ e).2; have h2 := hbs; omega)
          have hWa : Below W2.heap.size W2 (W2.alloc (.cells #[.string g, .string x] 28)) := by go_grown
          have W0 := bel_later hWa C0
          have W1 := bel_later hWa C1
          have V0 := (bel_frozen hWa hl2 (o := 0)).trans Y0
          have V1 := (bel_frozen hWa hl2 (o := 1)).trans Y1
          have X0 := bel_later hWa c80
          have X1 := bel_later hWa c81
          have hWl : w.heap.size < (W2.alloc (.cells #[.string g, .string x] 28)).heap.size := Nat.lt_of_lt_of_le hl2 hWa.size
          have hX : wr.heap.size < (W2.alloc (.cells #[.string g, .string x] 28)).heap.size := Nat.lt_of_lt_of_le hq8 hWa.size
          have hBa : Below w.heap.size w (W2.alloc (.cells #[.string g, .string x] 28)) := bel_alloc hB2 _
          have HOA := Lib.hid (HO2.out.alloc (.cells #[.string g, .string x] 28))
          clear hW e1 b0 b1 z0 z1 KP hb hbw C0 C1 Y0 Y1
          go_wp2_with (at_builtin; refine wpList_append_lies _ rfl (.tmp 32) (.tmp 34) _ rfl w.heap.size 28 i0 _ 2 32 Try.underlying39 hi0 hz0 hz1 hz2 rfl (by omega) (.slice A acc.length cp) acc.length (flat acc) rfl HOA.out ⟨W2.heap.size, 0, none⟩ 1 1 [.string g, .string x] rfl rfl (World.news_of_block (cs := #[.string g, .string x]) (t := 28) (fr := (0, 0)) (heap_alloc_new W2 _)) (by simp [Value.oneCell']) (by omega) (by simp only [maxLen]; omega) (by omega) hBa.size (W2.heap.size + 1) (by simp) ?_; intro gg cap w2 hown2 hg2 hat2 hlt2; have d0 := (grown_far hg2 (o := 0) hWl HN.out).trans W0; have d1 := (grown_far hg2 (o := 1) hWl HN.out).trans W1; have d2 := (grown_far hg2 (o := 0) hX HN2.out).trans X0; have d3 := (grown_far hg2 (o := 1) hX HN2.out).trans X1; have d4 := (grown_ffar hg2 (o := 0) hWl HN.out).trans V0; have d5 := (grown_ffar hg2 (o := 1) hWl HN.out).trans V1)
          have hne3 : gg ≠ w.heap.size := by
            rcases hat2 with e | e
            · intro e2; exact HN.out (by rw [e, e2])
            · omega
          have hB3 : Below w.heap.size w w2 := grown_bel hBa hg2 HOA.out (Nat.le_refl _) hBa.size
          refine ⟨⟨k + 1, by omega, by simp, some ⟨gg, 0, none⟩, cap, ?_, ?_, ?_, ?_, ?_, ?_, ?_, ?_⟩, by simp [intOf]; omega⟩
          · rw [TS.out]; simp
          · rw [TS.out, flat_snoc]; simp only [List.length_append, List.length_cons, List.length_nil]
            exact own_set (own_set hown2 (by simp [Value.ownBlock]; exact hne3) _) (by simp [Value.ownBlock]; exact hne3) _
          · simp [Value.ownBlock]; exact hne3
          · rw [TS.out]; simp [go_sem, d0, d1]
          · simp [go_sem, d0, d1]
          · simp [go_sem, d4]
          · simp [go_sem, d5]
          · exact (hB3.setCell (p := ⟨w.heap.size, 0, none⟩) (Nat.le_refl _) _).setCell (p := ⟨w.heap.size, 1, none⟩) (Nat.le_refl _) _
      · have TS : Hid (pss f t (ends.take (k + 1)) = (acc, g)) := Lib.hid (by rw [ts]; unfold pst; rw [if_neg q])
        have S := Lib.hid (fun w => rsplit_no g t x w (by
          cases q1 : lt g x
          · exact .inr (.inl rfl)
          · right; right
            cases q2 : sb x t
            · rfl
            · exact absurd ⟨q1, q2⟩ q))
        have HN := Lib.hid hne
        have HO := Lib.hid hown
        clear hE hc gk hx ts hS hlen hsb hne hown q
        go_wp2_with fail
        have kp : ∀ W, Below wr.heap.size wr W → (Below wr.heap.size wr W ∧ W.cell? ⟨b, off + k, none⟩ = some (.string x) ∧ W.cell? ⟨w.heap.size, 0, none⟩ = some (.string g) ∧ W.cell? ⟨w.heap.size, 1, none⟩ = some (.string t)) := fun W h => ⟨h, bel_later h e1, bel_later h b0, bel_later h b1⟩
        have KP := Lib.hid kp
        clear kp
        go_region_held3 (fun W => Below wr.heap.size wr W ∧ W.cell? ⟨b, off + k, none⟩ = some (.string x) ∧ W.cell? ⟨w.heap.size, 0, none⟩ = some (.string g) ∧ W.cell? ⟨w.heap.size, 1, none⟩ = some (.string t))
          (exact KP.out _ (by go_grown))
          (first
            | (go_at_call 18; (with_reducible refine (S.out (((wr.alloc (.cells #[.string ⟨#[]⟩, .string ⟨#[]⟩] 28)).alloc (.cells #[.string ⟨#[]⟩, .string ⟨#[]⟩] 28)).drew)).mono ?_); rintro e w1 ⟨rfl, hb⟩; have hbw : Below wr.heap.size wr w1 := Below.trans (by go_grown) (hb.mono (by simp; try omega)); have hbs : wr.heap.size ≤ w1.heap.size := hbw.size; obtain ⟨n0, n1, n2, n3⟩ := keepz hb wr.heap.size (.string ⟨#[]⟩) (.string ⟨#[]⟩) (by simp [go_sem]) (by simp [go_sem]) (by simp [go_sem]) (by simp [go_sem]); have j1 := World.block_lt_of_cell? w1 _ n0; have j2 : wr.heap.size ≠ w1.heap.size := Nat.ne_of_lt j1; have j3 : w1.heap.size ≠ wr.heap.size := fun e => j2 e.symm; obtain ⟨m0, m1, m2, m3⟩ := keepz hb (wr.heap.size + 1) (.string ⟨#[]⟩) (.string ⟨#[]⟩) (by simp [go_sem]) (by simp [go_sem]) (by simp [go_sem]) (by simp [go_sem]); have j4 := World.block_lt_of_cell? w1 _ m0; have j5 : wr.heap.size + 1 ≠ w1.heap.size := Nat.ne_of_lt j4; have j6 : w1.heap.size ≠ wr.heap.size + 1 := fun e => j5 e.symm)
            | (go_at_call 18; (with_reducible refine (S.out ((wr.alloc (.cells #[.string ⟨#[]⟩, .string ⟨#[]⟩] 28)).drew)).mono ?_); rintro e w1 ⟨rfl, hb⟩; have hbw : Below wr.heap.size wr w1 := Below.trans (by go_grown) (hb.mono (by simp; try omega)); have hbs : wr.heap.size ≤ w1.heap.size := hbw.size; obtain ⟨n0, n1, n2, n3⟩ := keepz hb wr.heap.size (.string ⟨#[]⟩) (.string ⟨#[]⟩) (by simp [go_sem]) (by simp [go_sem]) (by simp [go_sem]) (by simp [go_sem]); have j1 := World.block_lt_of_cell? w1 _ n0; have j2 : wr.heap.size ≠ w1.heap.size := Nat.ne_of_lt j1; have j3 : w1.heap.size ≠ wr.heap.size := fun e => j2 e.symm)
            | (go_at_call 18; (with_reducible refine (S.out _).mono ?_); rintro e w1 ⟨rfl, hb⟩; have hbw : Below wr.heap.size wr w1 := Below.trans (by go_grown) (hb.mono (by simp; try omega)); have hbs : wr.heap.size ≤ w1.heap.size := hbw.size))
        · refine at_exit (fun W2 hW => ?_)
          have hH : Below wr.heap.size wr W2 := by rw [hW]; go_grown
          have c70 : W2.cell? ⟨w1.heap.size, 0, none⟩ = some (.string emptyS) := by rw [hW]; first | (simp [go_sem]; done) | (simp [go_sem, *]; done)
          have c71 : W2.cell? ⟨w1.heap.size, 1, none⟩ = some (.string emptyS) := by rw [hW]; first | (simp [go_sem]; done) | (simp [go_sem, *]; done)
          have c80 : W2.cell? ⟨w1.heap.size + 1, 0, none⟩ = some (.string emptyS) := by rw [hW]; first | (simp [go_sem]; done) | (simp [go_sem, *]; done)
          have c81 : W2.cell? ⟨w1.heap.size + 1, 1, none⟩ = some (.string emptyS) := by rw [hW]; first | (simp [go_sem]; done) | (simp [go_sem, *]; done)
          have hq8 : w1.heap.size + 1 < W2.heap.size := World.block_lt_of_cell? W2 _ c80
          have hl2 : w.heap.size < W2.heap.size := Nat.lt_of_lt_of_le hlN hH.size
          have hB2 := bel_step hB hH (Nat.le_refl _)
          have HO2 := Lib.hid (own_bel HO.out hH)
          have C0 : W2.cell? ⟨w.heap.size, 0, none⟩ = some (.string g) := bel_later hH b0
          have C1 : W2.cell? ⟨w.heap.size, 1, none⟩ = some (.string t) := bel_later hH b1
          have Y0 : W2.frozen? ⟨w.heap.size, 0, none⟩ = false := (bel_frozen hH hlN).trans z0
          have Y1 : W2.frozen? ⟨w.heap.size, 1, none⟩ = false := (bel_frozen hH hlN).trans z1
          clear hW e1 b0 b1 z0 z1 KP hb hbw
          go_wp2
          refine ⟨⟨k + 1, by omega, by simp, A, cp, by rw [TS.out], ?_, by rw [TS.out]; exact HN.out, ?_, ?_, ?_, ?_, hB2⟩, by simp [intOf]; omega⟩
          · rw [TS.out]; exact HO2.out
          · rw [TS.out]; exact C0
          · exact C1
          · exact Y0
          · exact Y1
        · refine at_exit (fun W2 hW => ?_)
          have hH : Below wr.heap.size wr W2 := by rw [hW]; go_grown
          have c70 : W2.cell? ⟨w1.heap.size + 1, 0, none⟩ = some (.string emptyS) := by rw [hW]; first | (simp [go_sem]; done) | (simp [go_sem, *]; done)
          have c71 : W2.cell? ⟨w1.heap.size + 1, 1, none⟩ = some (.string emptyS) := by rw [hW]; first | (simp [go_sem]; done) | (simp [go_sem, *]; done)
          have c80 : W2.cell? ⟨w1.heap.size, 0, none⟩ = some (.string emptyS) := by rw [hW]; first | (simp [go_sem]; done) | (simp [go_sem, *]; done)
          have c81 : W2.cell? ⟨w1.heap.size, 1, none⟩ = some (.string emptyS) := by rw [hW]; first | (simp [go_sem]; done) | (simp [go_sem, *]; done)
          have hq8 : w1.heap.size < W2.heap.size := World.block_lt_of_cell? W2 _ c80
          have hl2 : w.heap.size < W2.heap.size := Nat.lt_of_lt_of_le hlN hH.size
          have hB2 := bel_step hB hH (Nat.le_refl _)
          have HO2 := Lib.hid (own_bel HO.out hH)
          have C0 : W2.cell? ⟨w.heap.size, 0, none⟩ = some (.string g) := bel_later hH b0
          have C1 : W2.cell? ⟨w.heap.size, 1, none⟩ = some (.string t) := bel_later hH b1
          have Y0 : W2.frozen? ⟨w.heap.size, 0, none⟩ = false := (bel_frozen hH hlN).trans z0
          have Y1 : W2.frozen? ⟨w.heap.size, 1, none⟩ = false := (bel_frozen hH hlN).trans z1
          clear hW e1 b0 b1 z0 z1 KP hb hbw
          go_wp2
          refine ⟨⟨k + 1, by omega, by simp, A, cp, by rw [TS.out], ?_, by rw [TS.out]; exact HN.out, ?_, ?_, ?_, ?_, hB2⟩, by simp [intOf]; omega⟩
          · rw [TS.out]; exact HO2.out
          · rw [TS.out]; exact C0
          · exact C1
          · exact Y0
          · exact Y1
        · refine at_exit (fun W2 hW => ?_)
          have hH : Below wr.heap.size wr W2 := by rw [hW]; go_grown
          have c70 : W2.cell? ⟨wr.heap.size, 0, none⟩ = some (.string emptyS) := by rw [hW]; first | (simp [go_sem]; done) | (simp [go_sem, *]; done)
          have c71 : W2.cell? ⟨wr.heap.size, 1, none⟩ = some (.string emptyS) := by rw [hW]; first | (simp [go_sem]; done) | (simp [go_sem, *]; done)
          have c80 : W2.cell? ⟨w1.heap.size, 0, none⟩ = some (.string emptyS) := by rw [hW]; first | (simp [go_sem]; done) | (simp [go_sem, *]; done)
          have c81 : W2.cell? ⟨w1.heap.size, 1, none⟩ = some (.string emptyS) := by rw [hW]; first | (simp [go_sem]; done) | (simp [go_sem, *]; done)
          have hq8 : w1.heap.size < W2.heap.size := World.block_lt_of_cell? W2 _ c80
          have hl2 : w.heap.size < W2.heap.size := Nat.lt_of_lt_of_le hlN hH.size
          have hB2 := bel_step hB hH (Nat.le_refl _)
          have HO2 := Lib.hid (own_bel HO.out hH)
          have C0 : W2.cell? ⟨w.heap.size, 0, none⟩ = some (.string g) := bel_later hH b0
          have C1 : W2.cell? ⟨w.heap.size, 1, none⟩ = some (.string t) := bel_later hH b1
          have Y0 : W2.frozen? ⟨w.heap.size, 0, none⟩ = false := (bel_frozen hH hlN).trans z0
          have Y1 : W2.frozen? ⟨w.heap.size, 1, none⟩ = false := (bel_frozen hH hlN).trans z1
          clear hW e1 b0 b1 z0 z1 KP hb hbw
          go_wp2
          refine ⟨⟨k + 1, by omega, by simp, A, cp, by rw [TS.out], ?_, by rw [TS.out]; exact HN.out, ?_, ?_, ?_, ?_, hB2⟩, by simp [intOf]; omega⟩
          · rw [TS.out]; exact HO2.out
          · rw [TS.out]; exact C0
          · exact C1
          · exact Y0
          · exact Y1
        · refine at_exit (fun W2 hW => ?_)
          have hH : Below wr.heap.size wr W2 := by rw [hW]; go_grown
          have c70 : W2.cell? ⟨wr.heap.size, 0, none⟩ = some (.string emptyS) := by rw [hW]; first | (simp [go_sem]; done) | (simp [go_sem, *]; done)
          have c71 : W2.cell? ⟨wr.heap.size, 1, none⟩ = some (.string emptyS) := by rw [hW]; first | (simp [go_sem]; done) | (simp [go_sem, *]; done)
          have c80 : W2.cell? ⟨wr.heap.size + 1, 0, none⟩ = some (.string emptyS) := by rw [hW]; first | (simp [go_sem]; done) | (simp [go_sem, *]; done)
          have c81 : W2.cell? ⟨wr.heap.size + 1, 1, none⟩ = some (.string emptyS) := by rw [hW]; first | (simp [go_sem]; done) | (simp [go_sem, *]; done)
          have hq8 : wr.heap.size + 1 < W2.heap.size := World.block_lt_of_cell? W2 _ c80
          have hl2 : w.heap.size < W2.heap.size := Nat.lt_of_lt_of_le hlN hH.size
          have hB2 := bel_step hB hH (Nat.le_refl _)
          have HO2 := Lib.hid (own_bel HO.out hH)
          have C0 : W2.cell? ⟨w.heap.size, 0, none⟩ = some (.string g) := bel_later hH b0
          have C1 : W2.cell? ⟨w.heap.size, 1, none⟩ = some (.string t) := bel_later hH b1
          have Y0 : W2.frozen? ⟨w.heap.size, 0, none⟩ = false := (bel_frozen hH hlN).trans z0
          have Y1 : W2.frozen? ⟨w.heap.size, 1, none⟩ = false := (bel_frozen hH hlN).trans z1
          clear hW e1 b0 b1 z0 z1 KP hb hbw
          go_wp2
          refine ⟨⟨k + 1, by omega, by simp, A, cp, by rw [TS.out], ?_, by rw [TS.out]; exact HN.out, ?_, ?_, ?_, ?_, hB2⟩, by simp [intOf]; omega⟩
          · rw [TS.out]; exact HO2.out
          · rw [TS.out]; exact C0
          · exact C1
          · exact Y0
          · exact Y1
        · refine at_exit (fun W2 hW => ?_)
          have hH : Below wr.heap.size wr W2 := by rw [hW]; go_grown
          have c70 : W2.cell? ⟨w1.heap.size, 0, none⟩ = some (.string emptyS) := by rw [hW]; first | (simp [go_sem]; done) | (simp [go_sem, *]; done)
          have c71 : W2.cell? ⟨w1.heap.size, 1, none⟩ = some (.string emptyS) := by rw [hW]; first | (simp [go_sem]; done) | (simp [go_sem, *]; done)
          have c80 : W2.cell? ⟨wr.heap.size, 0, none⟩ = some (.string emptyS) := by rw [hW]; first | (simp [go_sem]; done) | (simp [go_sem, *]; done)
          have c81 : W2.cell? ⟨wr.heap.size, 1, none⟩ = some (.string emptyS) := by rw [hW]; first | (simp [go_sem]; done) | (simp [go_sem, *]; done)
          have hq8 : wr.heap.size < W2.heap.size := World.block_lt_of_cell? W2 _ c80
          have hl2 : w.heap.size < W2.heap.size := Nat.lt_of_lt_of_le hlN hH.size
          have hB2 := bel_step hB hH (Nat.le_refl _)
          have HO2 := Lib.hid (own_bel HO.out hH)
          have C0 : W2.cell? ⟨w.heap.size, 0, none⟩ = some (.string g) := bel_later hH b0
          have C1 : W2.cell? ⟨w.heap.size, 1, none⟩ = some (.string t) := bel_later hH b1
          have Y0 : W2.frozen? ⟨w.heap.size, 0, none⟩ = false := (bel_frozen hH hlN).trans z0
          have Y1 : W2.frozen? ⟨w.heap.size, 1, none⟩ = false := (bel_frozen hH hlN).trans z1
          clear hW e1 b0 b1 z0 z1 KP hb hbw
          go_wp2
          refine ⟨⟨k + 1, by omega, by simp, A, cp, by rw [TS.out], ?_, by rw [TS.out]; exact HN.out, ?_, ?_, ?_, ?_, hB2⟩, by simp [intOf]; omega⟩
          · rw [TS.out]; exact HO2.out
          · rw [TS.out]; exact C0
          · exact C1
          · exact Y0
          · exact Y1
        · refine at_exit (fun W2 hW => ?_)
          have hH : Below wr.heap.size wr W2 := by rw [hW]; go_grown
          have c70 : W2.cell? ⟨wr.heap.size + 1, 0, none⟩ = some (.string emptyS) := by rw [hW]; first | (simp [go_sem]; done) | (simp [go_sem, *]; done)
          have c71 : W2.cell? ⟨wr.heap.size + 1, 1, none⟩ = some (.string emptyS) := by rw [hW]; first | (simp [go_sem]; done) | (simp [go_sem, *]; done)
          have c80 : W2.cell? ⟨wr.heap.size, 0, none⟩ = some (.string emptyS) := by rw [hW]; first | (simp [go_sem]; done) | (simp [go_sem, *]; done)
          have c81 : W2.cell? ⟨wr.heap.size, 1, none⟩ = some (.string emptyS) := by rw [hW]; first | (simp [go_sem]; done) | (simp [go_sem, *]; done)
          have hq8 : wr.heap.size < W2.heap.size := World.block_lt_of_cell? W2 _ c80
          have hl2 : w.heap.size < W2.heap.size := Nat.lt_of_lt_of_le hlN hH.size
          have hB2 := bel_step hB hH (Nat.le_refl _)
          have HO2 := Lib.hid (own_bel HO.out hH)
          have C0 : W2.cell? ⟨w.heap.size, 0, none⟩ = some (.string g) := bel_later hH b0
          have C1 : W2.cell? ⟨w.heap.size, 1, none⟩ = some (.string t) := bel_later hH b1
          have Y0 : W2.frozen? ⟨w.heap.size, 0, none⟩ = false := (bel_frozen hH hlN).trans z0
          have Y1 : W2.frozen? ⟨w.heap.size, 1, none⟩ = false := (bel_frozen hH hlN).trans z1
          clear hW e1 b0 b1 z0 z1 KP hb hbw
          go_wp2
          refine ⟨⟨k + 1, by omega, by simp, A, cp, by rw [TS.out], ?_, by rw [TS.out]; exact HN.out, ?_, ?_, ?_, ?_, hB2⟩, by simp [intOf]; omega⟩
          · rw [TS.out]; exact HO2.out
          · rw [TS.out]; exact C0
          · exact C1
          · exact Y0
          · exact Y1
end Go.Proofs.Ytchbenfpfemgnaa
