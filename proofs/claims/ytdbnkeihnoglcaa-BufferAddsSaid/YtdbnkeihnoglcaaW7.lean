/- The stable sort, whole. -/
import Derived.Test.YtdbnkeihnoglcaaW6
namespace Go.Proofs.Ytdbnkeihnoglcaa
set_option linter.unusedSimpArgs false
open Go.RowKit Go.Maps
set_option linter.unusedVariables false
theorem sym_any (b off n cap : Nat) (hn : n ≤ 1000) (hnc : n ≤ cap) : ∀ (N a m e : Nat) (P U V S : List MG) (w : World), U.length + V.length ≤ N → P.length = a → a + U.length = m → m + V.length = e → 1 ≤ U.length → 1 ≤ V.length → (P ++ U ++ V ++ S).length = n → Srt U → Srt V → InP w b off (P ++ U ++ V ++ S) w →
    Calls Try.prog 74 #[.slice (some ⟨b, off, none⟩) n cap, .int .i64 a, .int .i64 m, .int .i64 e, OF] w fun r w' => r = .returned (.tuple #[]) ∧ InP w b off (P ++ stab (U ++ V) ++ S) w' := by
  intro N
  induction N with
  | zero => intro a m e P U V S w h0 _ _ _ h1; omega
  | succ N ih =>
    intro a m e P U V S w h0 hp hm he h1 h2 hl hs ht hI
    by_cases k1 : U.length = 1
    · obtain ⟨x, rfl⟩ := List.length_eq_one_iff.1 k1
      simp only [List.singleton_append] at *
      exact sym_one b off n cap a m e P V S x w hp (by simpa using hm) he (by simpa using hl) ht hn hnc (by simpa using hI)
    · by_cases k2 : V.length = 1
      · obtain ⟨y, rfl⟩ := List.length_eq_one_iff.1 k2
        exact sym_last b off n cap a m e U.length P U S y w hp rfl hm (by simpa using he) (by omega) (by simpa using hl) hs hn hnc (by simpa using hI)
      · exact sym_gen b off n cap a m e U.length V.length P U V S w hp rfl rfl hm he (by omega) (by omega) hl hs ht hn hnc hI (fun a m e P U V S w k => ih a m e P U V S w (by omega))
theorem flat_len (D : List (List MG)) : (D.map stab).flatten.length = D.flatten.length := by
  induction D with
  | nil => rfl
  | cons d D ih => simp only [List.map_cons, List.flatten_cons, List.length_append, ih, stab_len]
set_option maxRecDepth 100000 in
set_option maxHeartbeats 16000000 in
theorem stable_any (b off n cap : Nat) (L : List MG) (w : World) (hl : L.length = n) (hn : n ≤ 1000) (hnc : n ≤ cap) (hI : InP w b off L w) :
    Calls Try.prog 66 #[.slice (some ⟨b, off, none⟩) n cap, .int .i64 n, OF] w fun r w' => r = .returned (.tuple #[]) ∧ InP w b off (stab L) w' := by
  have HL := Lib.hid hl
  have HI := Lib.hid hI
  clear hl hI
  go_enter Try.func66, Try.ntmps66
  go_wp2
  go_loopw [7, 8] (fun av bv wr => ∃ (a : Nat) (D : List (List MG)) (R : List MG), a ≤ n ∧ av = .int .i64 a ∧ bv = .int .i64 ((a + 20 : Nat) : Int) ∧ Hid ((∀ d ∈ D, d.length = 20) ∧ D.flatten.length = a ∧ L = D.flatten ++ R) ∧ InP w b off ((D.map stab).flatten ++ R) wr) (fun _ bv _ => n + 21 - (intOf bv).toNat)
  case atStart => exact ⟨0, [], L, by omega, rfl, by simp, Lib.hid ⟨fun d hd => (by cases hd), rfl, rfl⟩, HI.out⟩
  case round =>
    obtain ⟨a, D, R, ha, rfl, rfl, HD, hI⟩ := hrel
    have HW := Lib.hid hI
    clear hI
    obtain ⟨e, he⟩ : ∃ e, a + 20 = e := ⟨_, rfl⟩
    rw [he]
    have z0 : (0 : Int) ≤ (a : Int) := by omega
    have z1 : (a : Int) ≤ 1000 := by omega
    have z2 : (e : Int) ≤ 1020 := by omega
    have z3 : (0 : Int) ≤ (e : Int) := by omega
    have HRL := Lib.hid (show a + R.length = n by have := HL.out; rw [HD.out.2.2, List.length_append, HD.out.2.1] at this; exact this)
    by_cases h : e ≤ n
    · have h1 : (e : Int) ≤ (n : Int) := by omega
      have h2 : (R.take 20).length = 20 := by rw [List.length_take]; have := HRL.out; omega
      have AI := Lib.hid (ins_any b off n cap a e (D.map stab).flatten (R.take 20) (R.drop 20) wr (by rw [List.append_assoc, List.take_append_drop, List.length_append, flat_len, HD.out.2.1]; exact HRL.out) (by rw [flat_len]; exact HD.out.2.1) (by omega) hn hnc (by rw [List.append_assoc, List.take_append_drop]; exact HW.out.refl))
      have HN := Lib.hid (show (∀ d ∈ D ++ [R.take 20], d.length = 20) ∧ (D ++ [R.take 20]).flatten.length = e ∧ L = (D ++ [R.take 20]).flatten ++ R.drop 20 by
        refine ⟨fun d hd => ?_, ?_, ?_⟩
        · rcases List.mem_append.1 hd with hd | hd
          · exact HD.out.1 d hd
          · rw [List.mem_singleton.1 hd]; exact h2
        · rw [List.flatten_append, List.length_append, HD.out.2.1]; simp; have := HRL.out; omega
        · rw [List.flatten_append]; simp [HD.out.2.2])
      have HE := Lib.hid he
      clear h2 he
      go_wp2_with (first
        | (go_at_call 73; ((with_reducible refine AI.out.mono ?_); rintro r w1 ⟨rfl, c1⟩; have C1 := Lib.hid (HW.out.trans c1); clear c1))
        | fail)
      exact ⟨⟨e, D ++ [R.take 20], R.drop 20, h, rfl, by simp, HN, by have z := C1.out; simpa using z⟩, by simp [intOf]; have := HE.out; omega⟩
    · have h1 : ¬ (e : Int) ≤ (n : Int) := by omega
      have AI := Lib.hid (ins_any b off n cap a n (D.map stab).flatten R [] wr (by rw [List.append_nil, List.length_append, flat_len, HD.out.2.1]; exact HRL.out) (by rw [flat_len]; exact HD.out.2.1) HRL.out hn hnc (by rw [List.append_nil]; exact HW.out.refl))
      have HRS := Lib.hid (show R.length < 20 by have := HRL.out; omega)
      clear he
      go_wp2_with (first
        | (go_at_call 73; ((with_reducible refine AI.out.mono ?_); rintro r w1 ⟨rfl, c1⟩; have C1 := Lib.hid (HW.out.trans c1); clear c1))
        | fail)
      go_loopw [6] (fun bv wr => ∃ (bs : Nat) (D : List (List MG)) (R : List MG), 20 ≤ bs ∧ bs ≤ 2000 ∧ bv = .int .i64 bs ∧ Hid ((∀ d ∈ D, d.length = bs) ∧ R.length < bs ∧ L = D.flatten ++ R) ∧ InP w b off ((D.map stab).flatten ++ stab R) wr) (fun bv _ => 2000 - (intOf bv).toNat)
      case atStart => exact ⟨20, D, R, by omega, by omega, rfl, Lib.hid ⟨HD.out.1, HRS.out, HD.out.2.2⟩, by have z := C1.out; simpa using z⟩
      case round =>
        clear HD HW HRL HRS AI C1 h h1 ha z0 z1 z2 z3
        obtain ⟨bs, D, R, hb1, hb2, rfl, HD, hI⟩ := hrel
        have HW := Lib.hid hI
        clear hI
        have y1 : (0 : Int) ≤ (bs : Int) := by omega
        have y2 : (bs : Int) ≤ 2000 := by omega
        by_cases hb : bs < n
        · have hbi : (bs : Int) < (n : Int) := by omega
          obtain ⟨b2, hb3⟩ : ∃ b2, 2 * bs = b2 := ⟨_, rfl⟩
          have y3 : 2 * (bs : Int) = (b2 : Int) := by omega
          have y3b : (bs : Int) * 2 = (b2 : Int) := by omega
          have y4 : (b2 : Int) ≤ 2000 := by omega
          have y5 : (0 : Int) ≤ (b2 : Int) := by omega
          have HB2 := Lib.hid hb3
          clear hb3
          go_wp2
          go_loopw [7, 8] (fun av bv wr => ∃ (a : Nat) (E F : List (List MG)), a ≤ n ∧ av = .int .i64 a ∧ bv = .int .i64 ((a + b2 : Nat) : Int) ∧ Hid ((∀ d ∈ E, d.length = b2) ∧ (∀ d ∈ F, d.length = bs) ∧ E.flatten.length = a ∧ L = E.flatten ++ (F.flatten ++ R)) ∧ InP w b off ((E.map stab).flatten ++ ((F.map stab).flatten ++ stab R)) wr) (fun _ bv _ => n + b2 + 1 - (intOf bv).toNat)
          case atStart => exact ⟨0, [], D, by omega, rfl, by simp, Lib.hid ⟨fun d hd => (by cases hd), HD.out.1, rfl, HD.out.2.2⟩, HW.out⟩
          case round =>
            clear HW
            obtain ⟨a, E, F, ha, rfl, rfl, HF, hI⟩ := hrel
            have HW := Lib.hid hI
            clear hI
            obtain ⟨e, he⟩ : ∃ e, a + b2 = e := ⟨_, rfl⟩
            rw [he]
            have z0 : (0 : Int) ≤ (a : Int) := by omega
            have z1 : (a : Int) ≤ 1000 := by omega
            have z2 : (e : Int) ≤ 3000 := by omega
            have z3 : (0 : Int) ≤ (e : Int) := by omega
            obtain ⟨m, hm⟩ : ∃ m, a + bs = m := ⟨_, rfl⟩
            have z4 : (a : Int) + (bs : Int) = (m : Int) := by omega
            have z5 : (0 : Int) ≤ (m : Int) := by omega
            have z6 : (m : Int) ≤ 3000 := by omega
            have HRL := Lib.hid (show a + (F.flatten.length + R.length) = n by
              have := HL.out
              rw [HF.out.2.2.2, List.length_append, HF.out.2.2.1, List.length_append] at this; exact this)
            by_cases h : e ≤ n
            · have h1 : (e : Int) ≤ (n : Int) := by omega
              obtain ⟨d1, d2, F2, hF⟩ : ∃ d1 d2 F2, F = d1 :: d2 :: F2 := by
                have r1 := HRL.out
                have r2 := HD.out.2.1
                have r3 := HF.out.2.1
                have r4 := HB2.out
                match F, r1, r3 with
                | [], r1, _ => simp at r1; omega
                | [d], r1, r3 => have := r3 d List.mem_cons_self; simp at r1; omega
                | d1 :: d2 :: F2, _, _ => exact ⟨d1, d2, F2, rfl⟩
              subst hF
              have l1 := HF.out.2.1 d1 List.mem_cons_self
              have l2 := HF.out.2.1 d2 (List.mem_cons_of_mem _ List.mem_cons_self)
              have AI := Lib.hid (sym_any b off n cap hn hnc _ a m e (E.map stab).flatten (stab d1) (stab d2) ((F2.map stab).flatten ++ stab R) wr (Nat.le_refl _) (by rw [flat_len]; exact HF.out.2.2.1) (by rw [stab_len]; omega) (by rw [stab_len]; have := HB2.out; omega) (by rw [stab_len]; omega) (by rw [stab_len]; omega) (by
                have r1 := HRL.out
                simp only [List.length_append, flat_len, stab_len, List.flatten_cons] at r1 ⊢
                have := HF.out.2.2.1
                omega) (srt_stab _) (srt_stab _) (by have z := HW.out.refl; simpa using z))
              rw [stab_stab] at AI
              have HN := Lib.hid (show (∀ d ∈ E ++ [d1 ++ d2], d.length = b2) ∧ (∀ d ∈ F2, d.length = bs) ∧ (E ++ [d1 ++ d2]).flatten.length = e ∧ L = (E ++ [d1 ++ d2]).flatten ++ (F2.flatten ++ R) by
                have hf := HF.out
                have := HB2.out
                refine ⟨fun d hd => ?_, fun d hd => hf.2.1 d (List.mem_cons_of_mem _ (List.mem_cons_of_mem _ hd)), ?_, ?_⟩
                · rcases List.mem_append.1 hd with hd | hd
                  · exact hf.1 d hd
                  · rw [List.mem_singleton.1 hd, List.length_append]; omega
                · rw [List.flatten_append, List.length_append, hf.2.2.1]; simp; omega
                · rw [List.flatten_append]; simp [hf.2.2.2])
              have HE := Lib.hid he
              clear l1 l2 he hm
              go_wp2_with (first
                | (go_at_call 74; ((with_reducible refine AI.out.mono ?_); rintro r w1 ⟨rfl, c1⟩; have C1 := Lib.hid (HW.out.trans c1); clear c1))
                | fail)
              exact ⟨⟨e, E ++ [d1 ++ d2], F2, h, rfl, by simp, HN, by have z := C1.out; simpa using z⟩, by simp [intOf]; have := HE.out; have := HB2.out; omega⟩
            · have h1 : ¬ (e : Int) ≤ (n : Int) := by omega
              have hF : F = [] ∨ ∃ d, F = [d] := by
                have r1 := HRL.out
                have r3 := HF.out.2.1
                have r4 := HB2.out
                match F, r1, r3 with
                | [], _, _ => exact .inl rfl
                | [d], _, _ => exact .inr ⟨d, rfl⟩
                | d1 :: d2 :: F2, r1, r3 =>
                  have := r3 d1 List.mem_cons_self
                  have := r3 d2 (List.mem_cons_of_mem _ List.mem_cons_self)
                  simp at r1; omega
              have HN := Lib.hid (show (∀ d ∈ E, d.length = b2) ∧ (F.flatten ++ R).length < b2 ∧ L = E.flatten ++ (F.flatten ++ R) by
                refine ⟨HF.out.1, ?_, HF.out.2.2.2⟩
                have := HRL.out; rw [List.length_append]; omega)
              have HM := Lib.hid (show b2 ≤ 2000 ∧ 20 ≤ b2 ∧ bs < b2 by have := HB2.out; omega)
              by_cases hmn : m < n
              · have m1 : (m : Int) < (n : Int) := by omega
                obtain ⟨d, rfl⟩ : ∃ d, F = [d] := by
                  rcases hF with e1 | e1
                  · have r1 := HRL.out; rw [e1] at r1; simp at r1; have := HD.out.2.1; omega
                  · exact e1
                have l1 := HF.out.2.1 d List.mem_cons_self
                have l2 : m + R.length = n := by have := HRL.out; simp at this; omega
                have AI := Lib.hid (sym_any b off n cap hn hnc _ a m n (E.map stab).flatten (stab d) (stab R) [] wr (Nat.le_refl _) (by rw [flat_len]; exact HF.out.2.2.1) (by rw [stab_len]; omega) (by rw [stab_len]; exact l2) (by rw [stab_len]; omega) (by rw [stab_len]; omega) (by
                  simp only [List.length_append, flat_len, stab_len, List.length_nil]
                  have := HF.out.2.2.1
                  omega) (srt_stab _) (srt_stab _) (by have z := HW.out.refl; simpa using z))
                rw [stab_stab] at AI
                clear l1 l2 he hm hF
                go_wp2_with (first
                  | (go_at_call 74; ((with_reducible refine AI.out.mono ?_); rintro r w1 ⟨rfl, c1⟩; have C1 := Lib.hid (HW.out.trans c1); clear c1))
                  | fail)
                exact ⟨⟨b2, E, [d].flatten ++ R, HM.out.2.1, HM.out.1, rfl, HN, by have z := C1.out; simpa using z⟩, by simp [intOf]; have := HM.out; omega⟩
              · have m1 : ¬ (m : Int) < (n : Int) := by omega
                have HC := Lib.hid (show InP w b off ((E.map stab).flatten ++ stab (F.flatten ++ R)) wr by
                  have z := HW.out
                  rcases hF with e1 | ⟨d, e1⟩
                  · rw [e1] at z ⊢; simpa using z
                  · have r1 := HRL.out
                    have r2 := HF.out.2.1 d (by rw [e1]; exact List.mem_cons_self)
                    rw [e1] at z r1 ⊢
                    have r3 : R = [] := List.eq_nil_of_length_eq_zero (by simp at r1; omega)
                    rw [r3] at z ⊢
                    simpa [stab, accM] using z)
                clear he hm hF
                go_wp2
                exact ⟨⟨b2, E, F.flatten ++ R, HM.out.2.1, HM.out.1, rfl, HN, HC.out⟩, by simp [intOf]; have := HM.out; omega⟩
        · have hbi : ¬ (bs : Int) < (n : Int) := by omega
          have HC := Lib.hid (show InP w b off (stab L) wr by
            have z := HW.out
            have hl := HL.out
            have hd := HD.out
            match D, hd, z with
            | [], hd, z => rw [hd.2.2]; simpa using z
            | [d], hd, z =>
              have r1 := hd.1 d List.mem_cons_self
              have r2 : R = [] := by
                rw [hd.2.2] at hl; simp at hl
                exact List.eq_nil_of_length_eq_zero (by omega)
              rw [r2] at z hd
              rw [hd.2.2]
              simpa [stab, accM] using z
            | d1 :: d2 :: D2, hd, z =>
              exfalso
              have r1 := hd.1 d1 List.mem_cons_self
              have r2 := hd.1 d2 (List.mem_cons_of_mem _ List.mem_cons_self)
              rw [hd.2.2] at hl; simp at hl; omega)
          clear HW
          go_wp2
          go_end0
          exact ⟨rfl, HC.out⟩
end Go.Proofs.Ytdbnkeihnoglcaa
