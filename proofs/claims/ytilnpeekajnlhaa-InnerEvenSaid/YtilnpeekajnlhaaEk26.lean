/- Texts of the proof, one behind the other. -/
import Derived.Test.YtilnpeekajnlhaaEk25
import Derived.Test.YtilnpeekajnlhaaEk07
import Derived.Test.YtilnpeekajnlhaaEk20
import Derived.Test.YtilnpeekajnlhaaEk19
import Derived.Deep.Cut
import Derived.Test.YtilnpeekajnlhaaEk15
import Derived.Test.YtilnpeekajnlhaaEk02
import Derived.Test.YtilnpeekajnlhaaEk13
import Derived.Test.YtilnpeekajnlhaaEk12
set_option linter.unusedVariables false
set_option linter.unusedSimpArgs false
namespace Go.Proofs.Ytilnpeekajnlhaa
open Go.RowKit Go.Maps
theorem sym_any (b off n cap : Nat) (hn : n ≤ 1000) (hnc : n ≤ cap) : ∀ (N a m e : Nat) (P U V S : List MG) (w : World), U.length + V.length ≤ N → P.length = a → a + U.length = m → m + V.length = e → 1 ≤ U.length → 1 ≤ V.length → (P ++ U ++ V ++ S).length = n → Srt U → Srt V → InP w b off (P ++ U ++ V ++ S) w →
    Calls Try.prog 124 #[.slice (some ⟨b, off, none⟩) n cap, .int .i64 a, .int .i64 m, .int .i64 e, OF] w fun r w' => r = .returned (.tuple #[]) ∧ InP w b off (P ++ stab (U ++ V) ++ S) w' := by
  intro N
  induction N with
  | zero => intro a m e P U V S w h0 _ _ _ h1; omega
  | succ N ih =>
    intro a m e P U V S w h0 hp hm he h1 h2 hl hs ht hI
    by_cases k1 : U.length = 1
    · obtain ⟨x, rfl⟩ := List.length_eq_one_iff.1 k1
      simp only [List.singleton_append] at *
      exact sym_one b off n cap a m e P V S x w hp (by simpa using hm) he (by simpa using hl) ht hn hnc (by simpa using hI)
    · by_cases k2 : V.length = 1
      · obtain ⟨y, rfl⟩ := List.length_eq_one_iff.1 k2
        exact sym_last b off n cap a m e U.length P U S y w hp rfl hm (by simpa using he) (by omega) (by simpa using hl) hs hn hnc (by simpa using hI)
      · exact sym_gen b off n cap a m e U.length V.length P U V S w hp rfl rfl hm he (by omega) (by omega) hl hs ht hn hnc hI (fun a m e P U V S w k => ih a m e P U V S w (by omega))
theorem flat_len (D : List (List MG)) : (D.map stab).flatten.length = D.flatten.length := by
  induction D with
  | nil => rfl
  | cons d D ih => simp only [List.map_cons, List.flatten_cons, List.length_append, ih, stab_len]
set_option maxRecDepth 100000 in
set_option maxHeartbeats 16000000 in
theorem stable_any (b off n cap : Nat) (L : List MG) (w : World) (hl : L.length = n) (hn : n ≤ 1000) (hnc : n ≤ cap) (hI : InP w b off L w) :
    Calls Try.prog 113 #[.slice (some ⟨b, off, none⟩) n cap, .int .i64 n, OF] w fun r w' => r = .returned (.tuple #[]) ∧ InP w b off (stab L) w' := by
  have HL := Lib.hid hl
  have HI := Lib.hid hI
  clear hl hI
  go_enter Try.func113, Try.ntmps113
  go_wp2
  go_loopw [7, 8] (fun av bv wr => ∃ (a : Nat) (D : List (List MG)) (R : List MG), a ≤ n ∧ av = .int .i64 a ∧ bv = .int .i64 ((a + 20 : Nat) : Int) ∧ Hid ((∀ d ∈ D, d.length = 20) ∧ D.flatten.length = a ∧ L = D.flatten ++ R) ∧ InP w b off ((D.map stab).flatten ++ R) wr) (fun _ bv _ => n + 21 - (intOf bv).toNat)
  case atStart => exact ⟨0, [], L, by omega, rfl, by simp, Lib.hid ⟨fun d hd => (by cases hd), rfl, rfl⟩, HI.out⟩
  case round =>
    obtain ⟨a, D, R, ha, rfl, rfl, HD, hI⟩ := hrel
    have HW := Lib.hid hI
    clear hI
    obtain ⟨e, he⟩ : ∃ e, a + 20 = e := ⟨_, rfl⟩
    rw [he]
    have z0 : (0 : Int) ≤ (a : Int) := by omega
    have z1 : (a : Int) ≤ 1000 := by omega
    have z2 : (e : Int) ≤ 1020 := by omega
    have z3 : (0 : Int) ≤ (e : Int) := by omega
    have HRL := Lib.hid (show a + R.length = n by have := HL.out; rw [HD.out.2.2, List.length_append, HD.out.2.1] at this; exact this)
    by_cases h : e ≤ n
    · have h1 : (e : Int) ≤ (n : Int) := by omega
      have h2 : (R.take 20).length = 20 := by rw [List.length_take]; have := HRL.out; omega
      have AI := Lib.hid (ins_any b off n cap a e (D.map stab).flatten (R.take 20) (R.drop 20) wr (by rw [List.append_assoc, List.take_append_drop, List.length_append, flat_len, HD.out.2.1]; exact HRL.out) (by rw [flat_len]; exact HD.out.2.1) (by omega) hn hnc (by rw [List.append_assoc, List.take_append_drop]; exact HW.out.refl))
      have HN := Lib.hid (show (∀ d ∈ D ++ [R.take 20], d.length = 20) ∧ (D ++ [R.take 20]).flatten.length = e ∧ L = (D ++ [R.take 20]).flatten ++ R.drop 20 by
        refine ⟨fun d hd => ?_, ?_, ?_⟩
        · rcases List.mem_append.1 hd with hd | hd
          · exact HD.out.1 d hd
          · rw [List.mem_singleton.1 hd]; exact h2
        · rw [List.flatten_append, List.length_append, HD.out.2.1]; simp; have := HRL.out; omega
        · rw [List.flatten_append]; simp [HD.out.2.2])
      have HE := Lib.hid he
      clear h2 he
      go_wp2_with (first
        | (go_at_call 123; ((with_reducible refine AI.out.mono ?_); rintro r w1 ⟨rfl, c1⟩; have C1 := Lib.hid (HW.out.trans c1); clear c1))
        | fail)
      exact ⟨⟨e, D ++ [R.take 20], R.drop 20, h, rfl, by simp, HN, by have z := C1.out; simpa using z⟩, by simp [intOf]; have := HE.out; omega⟩
    · have h1 : ¬ (e : Int) ≤ (n : Int) := by omega
      have AI := Lib.hid (ins_any b off n cap a n (D.map stab).flatten R [] wr (by rw [List.append_nil, List.length_append, flat_len, HD.out.2.1]; exact HRL.out) (by rw [flat_len]; exact HD.out.2.1) HRL.out hn hnc (by rw [List.append_nil]; exact HW.out.refl))
      have HRS := Lib.hid (show R.length < 20 by have := HRL.out; omega)
      clear he
      go_wp2_with (first
        | (go_at_call 123; ((with_reducible refine AI.out.mono ?_); rintro r w1 ⟨rfl, c1⟩; have C1 := Lib.hid (HW.out.trans c1); clear c1))
        | fail)
      go_loopw [6] (fun bv wr => ∃ (bs : Nat) (D : List (List MG)) (R : List MG), 20 ≤ bs ∧ bs ≤ 2000 ∧ bv = .int .i64 bs ∧ Hid ((∀ d ∈ D, d.length = bs) ∧ R.length < bs ∧ L = D.flatten ++ R) ∧ InP w b off ((D.map stab).flatten ++ stab R) wr) (fun bv _ => 2000 - (intOf bv).toNat)
      case atStart => exact ⟨20, D, R, by omega, by omega, rfl, Lib.hid ⟨HD.out.1, HRS.out, HD.out.2.2⟩, by have z := C1.out; simpa using z⟩
      case round =>
        clear HD HW HRL HRS AI C1 h h1 ha z0 z1 z2 z3
        obtain ⟨bs, D, R, hb1, hb2, rfl, HD, hI⟩ := hrel
        have HW := Lib.hid hI
        clear hI
        have y1 : (0 : Int) ≤ (bs : Int) := by omega
        have y2 : (bs : Int) ≤ 2000 := by omega
        by_cases hb : bs < n
        · have hbi : (bs : Int) < (n : Int) := by omega
          obtain ⟨b2, hb3⟩ : ∃ b2, 2 * bs = b2 := ⟨_, rfl⟩
          have y3 : 2 * (bs : Int) = (b2 : Int) := by omega
          have y3b : (bs : Int) * 2 = (b2 : Int) := by omega
          have y4 : (b2 : Int) ≤ 2000 := by omega
          have y5 : (0 : Int) ≤ (b2 : Int) := by omega
          have HB2 := Lib.hid hb3
          clear hb3
          go_wp2
          go_loopw [7, 8] (fun av bv wr => ∃ (a : Nat) (E F : List (List MG)), a ≤ n ∧ av = .int .i64 a ∧ bv = .int .i64 ((a + b2 : Nat) : Int) ∧ Hid ((∀ d ∈ E, d.length = b2) ∧ (∀ d ∈ F, d.length = bs) ∧ E.flatten.length = a ∧ L = E.flatten ++ (F.flatten ++ R)) ∧ InP w b off ((E.map stab).flatten ++ ((F.map stab).flatten ++ stab R)) wr) (fun _ bv _ => n + b2 + 1 - (intOf bv).toNat)
          case atStart => exact ⟨0, [], D, by omega, rfl, by simp, Lib.hid ⟨fun d hd => (by cases hd), HD.out.1, rfl, HD.out.2.2⟩, HW.out⟩
          case round =>
            clear HW
            obtain ⟨a, E, F, ha, rfl, rfl, HF, hI⟩ := hrel
            have HW := Lib.hid hI
            clear hI
            obtain ⟨e, he⟩ : ∃ e, a + b2 = e := ⟨_, rfl⟩
            rw [he]
            have z0 : (0 : Int) ≤ (a : Int) := by omega
            have z1 : (a : Int) ≤ 1000 := by omega
            have z2 : (e : Int) ≤ 3000 := by omega
            have z3 : (0 : Int) ≤ (e : Int) := by omega
            obtain ⟨m, hm⟩ : ∃ m, a + bs = m := ⟨_, rfl⟩
            have z4 : (a : Int) + (bs : Int) = (m : Int) := by omega
            have z5 : (0 : Int) ≤ (m : Int) := by omega
            have z6 : (m : Int) ≤ 3000 := by omega
            have HRL := Lib.hid (show a + (F.flatten.length + R.length) = n by
              have := HL.out
              rw [HF.out.2.2.2, List.length_append, HF.out.2.2.1, List.length_append] at this; exact this)
            by_cases h : e ≤ n
            · have h1 : (e : Int) ≤ (n : Int) := by omega
              obtain ⟨d1, d2, F2, hF⟩ : ∃ d1 d2 F2, F = d1 :: d2 :: F2 := by
                have r1 := HRL.out
                have r2 := HD.out.2.1
                have r3 := HF.out.2.1
                have r4 := HB2.out
                match F, r1, r3 with
                | [], r1, _ => simp at r1; omega
                | [d], r1, r3 => have := r3 d List.mem_cons_self; simp at r1; omega
                | d1 :: d2 :: F2, _, _ => exact ⟨d1, d2, F2, rfl⟩
              subst hF
              have l1 := HF.out.2.1 d1 List.mem_cons_self
              have l2 := HF.out.2.1 d2 (List.mem_cons_of_mem _ List.mem_cons_self)
              have AI := Lib.hid (sym_any b off n cap hn hnc _ a m e (E.map stab).flatten (stab d1) (stab d2) ((F2.map stab).flatten ++ stab R) wr (Nat.le_refl _) (by rw [flat_len]; exact HF.out.2.2.1) (by rw [stab_len]; omega) (by rw [stab_len]; have := HB2.out; omega) (by rw [stab_len]; omega) (by rw [stab_len]; omega) (by
                have r1 := HRL.out
                simp only [List.length_append, flat_len, stab_len, List.flatten_cons] at r1 ⊢
                have := HF.out.2.2.1
                omega) (srt_stab _) (srt_stab _) (by have z := HW.out.refl; simpa using z))
              rw [stab_stab] at AI
              have HN := Lib.hid (show (∀ d ∈ E ++ [d1 ++ d2], d.length = b2) ∧ (∀ d ∈ F2, d.length = bs) ∧ (E ++ [d1 ++ d2]).flatten.length = e ∧ L = (E ++ [d1 ++ d2]).flatten ++ (F2.flatten ++ R) by
                have hf := HF.out
                have := HB2.out
                refine ⟨fun d hd => ?_, fun d hd => hf.2.1 d (List.mem_cons_of_mem _ (List.mem_cons_of_mem _ hd)), ?_, ?_⟩
                · rcases List.mem_append.1 hd with hd | hd
                  · exact hf.1 d hd
                  · rw [List.mem_singleton.1 hd, List.length_append]; omega
                · rw [List.flatten_append, List.length_append, hf.2.2.1]; simp; omega
                · rw [List.flatten_append]; simp [hf.2.2.2])
              have HE := Lib.hid he
              clear l1 l2 he hm
              go_wp2_with (first
                | (go_at_call 124; ((with_reducible refine AI.out.mono ?_); rintro r w1 ⟨rfl, c1⟩; have C1 := Lib.hid (HW.out.trans c1); clear c1))
                | fail)
              exact ⟨⟨e, E ++ [d1 ++ d2], F2, h, rfl, by simp, HN, by have z := C1.out; simpa using z⟩, by simp [intOf]; have := HE.out; have := HB2.out; omega⟩
            · have h1 : ¬ (e : Int) ≤ (n : Int) := by omega
              have hF : F = [] ∨ ∃ d, F = [d] := by
                have r1 := HRL.out
                have r3 := HF.out.2.1
                have r4 := HB2.out
                match F, r1, r3 with
                | [], _, _ => exact .inl rfl
                | [d], _, _ => exact .inr ⟨d, rfl⟩
                | d1 :: d2 :: F2, r1, r3 =>
                  have := r3 d1 List.mem_cons_self
                  have := r3 d2 (List.mem_cons_of_mem _ List.mem_cons_self)
                  simp at r1; omega
              have HN := Lib.hid (show (∀ d ∈ E, d.length = b2) ∧ (F.flatten ++ R).length < b2 ∧ L = E.flatten ++ (F.flatten ++ R) by
                refine ⟨HF.out.1, ?_, HF.out.2.2.2⟩
                have := HRL.out; rw [List.length_append]; omega)
              have HM := Lib.hid (show b2 ≤ 2000 ∧ 20 ≤ b2 ∧ bs < b2 by have := HB2.out; omega)
              by_cases hmn : m < n
              · have m1 : (m : Int) < (n : Int) := by omega
                obtain ⟨d, rfl⟩ : ∃ d, F = [d] := by
                  rcases hF with e1 | e1
                  · have r1 := HRL.out; rw [e1] at r1; simp at r1; have := HD.out.2.1; omega
                  · exact e1
                have l1 := HF.out.2.1 d List.mem_cons_self
                have l2 : m + R.length = n := by have := HRL.out; simp at this; omega
                have AI := Lib.hid (sym_any b off n cap hn hnc _ a m n (E.map stab).flatten (stab d) (stab R) [] wr (Nat.le_refl _) (by rw [flat_len]; exact HF.out.2.2.1) (by rw [stab_len]; omega) (by rw [stab_len]; exact l2) (by rw [stab_len]; omega) (by rw [stab_len]; omega) (by
                  simp only [List.length_append, flat_len, stab_len, List.length_nil]
                  have := HF.out.2.2.1
                  omega) (srt_stab _) (srt_stab _) (by have z := HW.out.refl; simpa using z))
                rw [stab_stab] at AI
                clear l1 l2 he hm hF
                go_wp2_with (first
                  | (go_at_call 124; ((with_reducible refine AI.out.mono ?_); rintro r w1 ⟨rfl, c1⟩; have C1 := Lib.hid (HW.out.trans c1); clear c1))
                  | fail)
                exact ⟨⟨b2, E, [d].flatten ++ R, HM.out.2.1, HM.out.1, rfl, HN, by have z := C1.out; simpa using z⟩, by simp [intOf]; have := HM.out; omega⟩
              · have m1 : ¬ (m : Int) < (n : Int) := by omega
                have HC := Lib.hid (show InP w b off ((E.map stab).flatten ++ stab (F.flatten ++ R)) wr by
                  have z := HW.out
                  rcases hF with e1 | ⟨d, e1⟩
                  · rw [e1] at z ⊢; simpa using z
                  · have r1 := HRL.out
                    have r2 := HF.out.2.1 d (by rw [e1]; exact List.mem_cons_self)
                    rw [e1] at z r1 ⊢
                    have r3 : R = [] := List.eq_nil_of_length_eq_zero (by simp at r1; omega)
                    rw [r3] at z ⊢
                    simpa [stab, accM] using z)
                clear he hm hF
                go_wp2
                exact ⟨⟨b2, E, F.flatten ++ R, HM.out.2.1, HM.out.1, rfl, HN, HC.out⟩, by simp [intOf]; have := HM.out; omega⟩
        · have hbi : ¬ (bs : Int) < (n : Int) := by omega
          have HC := Lib.hid (show InP w b off (stab L) wr by
            have z := HW.out
            have hl := HL.out
            have hd := HD.out
            match D, hd, z with
            | [], hd, z => rw [hd.2.2]; simpa using z
            | [d], hd, z =>
              have r1 := hd.1 d List.mem_cons_self
              have r2 : R = [] := by
                rw [hd.2.2] at hl; simp at hl
                exact List.eq_nil_of_length_eq_zero (by omega)
              rw [r2] at z hd
              rw [hd.2.2]
              simpa [stab, accM] using z
            | d1 :: d2 :: D2, hd, z =>
              exfalso
              have r1 := hd.1 d1 List.mem_cons_self
              have r2 := hd.1 d2 (List.mem_cons_of_mem _ List.mem_cons_self)
              rw [hd.2.2] at hl; simp at hl; omega)
          clear HW
          go_wp2
          go_end0
          exact ⟨rfl, HC.out⟩
end Go.Proofs.Ytilnpeekajnlhaa
namespace Go.Proofs.Ytilnpeekajnlhaa
open Go.RowKit Go.Maps
set_option maxHeartbeats 2000000 in
theorem ins_none (A : Option Addr) (c : Nat) (w : World) :
    Calls Try.prog 123 #[.slice A 0 c, .int .i64 0, .int .i64 0, OF] w fun r w' => r = .returned (.tuple #[]) ∧ w = w' := by
  go_enter Try.func123, Try.ntmps123
  go_wp2
  go_loopw [8] (fun iv wr => iv = .int .i64 1 ∧ w = wr) (fun _ _ => 0)
  case atStart => exact ⟨by simp, rfl⟩
  case round =>
    obtain ⟨rfl, rfl⟩ := hrel
    go_wp2
    go_end0
    exact ⟨rfl, rfl⟩
set_option maxHeartbeats 2000000 in
theorem stable_none (A : Option Addr) (c : Nat) (w : World) :
    Calls Try.prog 113 #[.slice A 0 c, .int .i64 0, OF] w fun r w' => r = .returned (.tuple #[]) ∧ w = w' := by
  have AI := Lib.hid (ins_none A c)
  go_enter Try.func113, Try.ntmps113
  go_wp2
  go_loopw [7, 8] (fun av iv wr => av = .int .i64 0 ∧ iv = .int .i64 20 ∧ w = wr) (fun _ _ _ => 0)
  case atStart => exact ⟨rfl, rfl, rfl⟩
  case round =>
    obtain ⟨rfl, rfl, rfl⟩ := hrel
    go_wp2_with (first
      | (go_at_call 123; ((with_reducible refine (AI.out _).mono ?_); rintro e w1 ⟨rfl, rfl⟩))
      | fail)
    go_loopw [6] (fun iv wr => iv = .int .i64 20 ∧ w = wr) (fun i _ => 0)
    case atStart => exact ⟨rfl, rfl⟩
    case round =>
      obtain ⟨rfl, rfl⟩ := hrel
      go_wp2
      go_end0
      exact ⟨rfl, rfl⟩
theorem sort_none (A : Option Addr) (c : Nat) (w : World) :
    Calls Try.prog 88 #[.slice A 0 c, OF] w fun r w' => r = .returned (.tuple #[]) ∧ w = w' := by
  have AI := Lib.hid (stable_none A c w)
  go_enter Try.func88, Try.ntmps88
  go_wp2_with (first
    | (go_at_call 113; ((with_reducible refine AI.out.mono ?_); rintro e w1 ⟨rfl, rfl⟩))
    | fail)
  go_end0
  exact ⟨rfl, rfl⟩
theorem sort_some (b off n cap : Nat) (L : List MG) (w : World) (hl : L.length = n) (hn : n ≤ 1000) (hnc : n ≤ cap) (hI : InP w b off L w) :
    Calls Try.prog 88 #[.slice (some ⟨b, off, none⟩) n cap, OF] w fun r w' => r = .returned (.tuple #[]) ∧ InP w b off (stab L) w' := by
  have AI := Lib.hid (stable_any b off n cap L w hl hn hnc hI)
  clear hl hI
  go_enter Try.func88, Try.ntmps88
  go_wp2_with (first
    | (go_at_call 113; ((with_reducible refine AI.out.mono ?_); rintro e w1 ⟨rfl, c1⟩; have C1 := Lib.hid c1; clear c1))
    | fail)
  go_end0
  exact ⟨rfl, C1.out⟩
/-- What is sorted: a row of its own. -/
theorem sort_any (A : Option Addr) (n c base : Nat) (L : List MG) (w : World) (hl : L.length = n) (hn : n ≤ 1000) (hR : EG.Row w base A L c) (hb : base ≤ w.heap.size) :
    Calls Try.prog 88 #[.slice A n c, OF] w fun r w' => r = .returned (.tuple #[]) ∧ EG.Rd w' A (stab L) ∧ Below base w w' := by
  by_cases h0 : n = 0
  · subst h0
    have e : L = [] := List.eq_nil_of_length_eq_zero hl
    refine (sort_none A c w).mono ?_
    rintro e w1 ⟨rfl, rfl⟩
    subst L
    exact ⟨rfl, .inl rfl, Below.refl _ _⟩
  · obtain ⟨x, hx⟩ : ∃ x, x ∈ L := ⟨_, List.getElem_mem (show 0 < L.length by omega)⟩
    obtain ⟨b, rfl, h1, h2, h3, h4, h5⟩ := inp_of_row hR hx
    refine (sort_some b 0 n c L w hl hn (by omega) h3).mono ?_
    rintro e w1 ⟨rfl, hI⟩
    exact ⟨rfl, hI.rd, hI.chg.below (fun g hg => by rw [hg]; exact h1) hb⟩
set_option maxHeartbeats 2000000 in
theorem badd_any (A B : Option Addr) (n c m d : Nat) (xs ys : List MG) (w : World) (hx : xs.length = n) (hy : ys.length = m) (hn : n ≤ 100) (hm : m ≤ 100) (hA : EG.Rd w A xs) (hB : EG.Rd w B ys) :
    Calls Try.prog 47 #[.slice A n c, .slice B m d] w fun r w' => (∃ A' c', r = .returned (.slice A' (n + m) c') ∧ EG.Rd w' A' (stab (xs ++ ys))) ∧ Below w.heap.size w w' := by
  have H0 := Lib.hid (alb w (.cells #[.slice A n c, .slice B m d] 25))
  have AC := Lib.hid (concat_any w.heap.size A B n c m d xs ys (w.alloc (.cells #[.slice A n c, .slice B m d] 25)) (heap_alloc_new _ _) hx hy hn hm (hA.later (alb _ _)) (hB.later (alb _ _)))
  have HLEN := Lib.hid (show (xs ++ ys).length = n + m by rw [List.length_append, hx, hy])
  clear hx hy hA hB
  go_enter Try.func47, Try.ntmps47
  go_wp2_with (first
    | (go_at_call 87; ((with_reducible refine AC.out.mono ?_); rintro e w1 ⟨⟨A', c', rfl, r1⟩, b1⟩; have AS := Lib.hid (sort_any A' (n + m) c' _ (xs ++ ys) w1 HLEN.out (by omega) r1 b1.size); have B1 := Lib.hid (bel_trans H0.out b1); clear b1 r1))
    | (go_at_call 88; ((with_reducible refine AS.out.mono ?_); rintro e w2 ⟨rfl, r2, b2⟩; have R2 := Lib.hid r2; have B2 := Lib.hid (B1.out.trans (b2.mono H0.out.size)); clear b2 r2))
    | fail)
  go_ret
  exact ⟨⟨_, _, rfl, R2.out⟩, B2.out⟩
end Go.Proofs.Ytilnpeekajnlhaa
namespace Go.Proofs.Ytilnpeekajnlhaa
open Go.RowKit Go.Maps
/-- A row that lies in new memory. -/
def NewR {α : Type} (E : RE α) (W : World) (base : Nat) (A : Option Addr) (l : List α) : Prop := E.Rd W A l ∧ (l = [] ∨ ∃ b off cs t, A = some ⟨b, off, none⟩ ∧ base ≤ b ∧ W.heap[b]? = some (.cells cs t (0, 0)))
theorem NewR.base {α : Type} {E : RE α} {W : World} {base b2 : Nat} {A : Option Addr} {l : List α} (h : NewR E W base A l) (hb : b2 ≤ base) : NewR E W b2 A l :=
  ⟨h.1, h.2.imp id (fun ⟨b, off, cs, t, e, h2, h3⟩ => ⟨b, off, cs, t, e, Nat.le_trans hb h2, h3⟩)⟩
theorem NewR.chgB {α : Type} {E : RE α} {W W' : World} {base N : Nat} {A : Option Addr} {l : List α} (h : NewR E W base A l) (hc : Chg (fun g => g = N) W W') (hN : N < base) : NewR E W' base A l := by
  rcases h with ⟨h1, h2⟩
  rcases h2 with rfl | ⟨b, off, cs, t, rfl, hb, hz⟩
  · exact ⟨.inl rfl, .inl rfl⟩
  · refine ⟨?_, .inr ⟨b, off, cs, t, rfl, hb, keep_chg hc hz (fun e => by omega)⟩⟩
    rcases h1 with h1 | ⟨b', off', e, hlt, hv⟩
    · exact .inl h1
    · cases e
      exact .inr ⟨b, off, rfl, Nat.lt_of_lt_of_le hlt hc.size, fun j u hj => (World.cell?_of_block (hc.block b hlt (fun e => by omega))).trans (hv j u hj)⟩
theorem NewR.later {α : Type} {E : RE α} {W W' : World} {base : Nat} {A : Option Addr} {l : List α} (h : NewR E W base A l) (hb : Below W.heap.size W W') : NewR E W' base A l := ⟨h.1.later hb, h.2.imp id (fun ⟨b, off, cs, t, e, h2, h3⟩ => ⟨b, off, cs, t, e, h2, keep_bel hb h3⟩)⟩
theorem sort_new (A : Option Addr) (n c base : Nat) (L : List MG) (w : World) (hl : L.length = n) (hn : n ≤ 1000) (hR : EG.Row w base A L c) (hb : base ≤ w.heap.size) :
    Calls Try.prog 88 #[.slice A n c, OF] w fun r w' => r = .returned (.tuple #[]) ∧ NewR EG w' base A (stab L) ∧ Below base w w' := by
  by_cases h0 : n = 0
  · subst h0
    have e : L = [] := List.eq_nil_of_length_eq_zero hl
    refine (sort_none A c w).mono ?_
    rintro e w1 ⟨rfl, rfl⟩
    subst L
    exact ⟨rfl, ⟨.inl rfl, .inl rfl⟩, Below.refl _ _⟩
  · obtain ⟨x, hx⟩ : ∃ x, x ∈ L := ⟨_, List.getElem_mem (show 0 < L.length by omega)⟩
    obtain ⟨b, rfl, h1, h2, h3, h4, h5⟩ := inp_of_row hR hx
    refine (sort_some b 0 n c L w hl hn (by omega) h3).mono ?_
    rintro e w1 ⟨rfl, hI⟩
    obtain ⟨cs, hz, -⟩ := hI.obj
    exact ⟨rfl, ⟨hI.rd, .inr ⟨b, 0, cs, 62, rfl, h1, hz⟩⟩, hI.chg.below (fun g hg => by rw [hg]; exact h1) hb⟩
set_option maxHeartbeats 2000000 in
theorem badd_new (A B : Option Addr) (n c m d : Nat) (xs ys : List MG) (w : World) (hx : xs.length = n) (hy : ys.length = m) (hn : n ≤ 100) (hm : m ≤ 100) (hA : EG.Rd w A xs) (hB : EG.Rd w B ys) :
    Calls Try.prog 47 #[.slice A n c, .slice B m d] w fun r w' => (∃ A' c', r = .returned (.slice A' (n + m) c') ∧ NewR EG w' w.heap.size A' (stab (xs ++ ys))) ∧ Below w.heap.size w w' := by
  have H0 := Lib.hid (alb w (.cells #[.slice A n c, .slice B m d] 25))
  have AC := Lib.hid (concat_any w.heap.size A B n c m d xs ys (w.alloc (.cells #[.slice A n c, .slice B m d] 25)) (heap_alloc_new _ _) hx hy hn hm (hA.later (alb _ _)) (hB.later (alb _ _)))
  have HLEN := Lib.hid (show (xs ++ ys).length = n + m by rw [List.length_append, hx, hy])
  clear hx hy hA hB
  go_enter Try.func47, Try.ntmps47
  go_wp2_with (first
    | (go_at_call 87; ((with_reducible refine AC.out.mono ?_); rintro e w1 ⟨⟨A', c', rfl, r1⟩, b1⟩; have AS := Lib.hid (sort_new A' (n + m) c' _ (xs ++ ys) w1 HLEN.out (by omega) r1 b1.size); have B1 := Lib.hid (bel_trans H0.out b1); clear b1 r1))
    | (go_at_call 88; ((with_reducible refine AS.out.mono ?_); rintro e w2 ⟨rfl, r2, b2⟩; have R2 := Lib.hid r2; have B2 := Lib.hid (B1.out.trans (b2.mono H0.out.size)); clear b2 r2))
    | fail)
  go_ret
  exact ⟨⟨_, _, rfl, R2.out.base (by simp)⟩, B2.out⟩

/-- A node with other messages, in new memory. -/
def AddP (w : World) (kd : Int) (n k m : Nat) (ps : List ByteArray) (ks : List Int) (L : List MG) (e : Ending) (w' : World) : Prop :=
  ∃ P pc J kc M mc B bc, e = .returned (NV kd (.slice P n pc) (.slice J k kc) (.slice M m mc) (.slice B 0 bc)) ∧ ES.Row w' w.heap.size P ps pc ∧ EI.Row w' w.heap.size J ks kc ∧ NewR EG w' w.heap.size M L ∧ Below w.heap.size w w'
theorem set5_0' {W : World} {g : Nat} {a b c d e : Value} {t : TypeId} (z : W.heap[g]? = some (.cells #[a, b, c, d, e] t (0, 0))) (v : Value) : (W.setCell ⟨g, 0, none⟩ v).heap[g]? = some (.cells #[v, b, c, d, e] t (0, 0)) := by
  have hlt : g < W.heap.size := (Array.getElem?_eq_some_iff.1 z).1
  have q : W.heap[g] = .cells #[a, b, c, d, e] t (0, 0) := by have := z; rw [Array.getElem?_eq_getElem hlt] at this; exact Option.some.inj this
  rw [Array.getElem?_eq_getElem (by simpa [World.setCell] using hlt)]
  simp [World.setCell, Array.getElem_modify, q]
theorem set5w {W : World} {g : Nat} {a b c d e : Value} {t : TypeId} (z : W.heap[g]? = some (.cells #[a, b, c, d, e] t (0, 0))) (a' b' c' d' e' : Value) : (((((W.setCell ⟨g, 0, none⟩ a').setCell ⟨g, 1, none⟩ b').setCell ⟨g, 2, none⟩ c').setCell ⟨g, 3, none⟩ d').setCell ⟨g, 4, none⟩ e').heap[g]? = some (.cells #[a', b', c', d', e'] t (0, 0)) :=
  set5_4 (set5_3 (set5_2 (set5_1 (set5_0' z _) _) _) _) _
set_option maxRecDepth 100000 in
set_option maxHeartbeats 4000000 in
theorem iadd_any (kd : Int) (P J M B L : Option Addr) (n pc k kc m mc bc q lc : Nat) (ps : List ByteArray) (ks : List Int) (ms ys : List MG) (w : World) (hl : ps.length = n) (hn : n ≤ 1000) (hkl : ks.length = k) (hk1 : k ≤ 1000) (hm : ms.length = m) (hm1 : m ≤ 100) (hq : ys.length = q) (hq1 : q ≤ 100) (hP : ES.Rd w P ps) (hJ : EI.Rd w J ks) (hM : EG.Rd w M ms) (hY : EG.Rd w L ys) :
    Calls Try.prog 17 #[NV kd (.slice P n pc) (.slice J k kc) (.slice M m mc) (.slice B 0 bc), .slice L q lc] w (AddP w kd n k (m + q) ps ks (stab (ms ++ ys))) := by
  have OA := Lib.hid (fun W (h : Below w.heap.size w W) => own_any kd P J M B n pc k kc m mc bc ps ks ms W hl hkl hm hn hk1 (by omega) (hP.later h) (hJ.later h) (hM.later h))
  have BA := Lib.hid (fun A c W (h : EG.Rd W A ms) (h2 : EG.Rd W L ys) => badd_new A L m c q lc ms ys W hm hq hm1 hq1 h h2)
  have HY := Lib.hid (fun W (h : Below w.heap.size w W) => hY.later h)
  clear hl hkl hm hq hP hJ hM hY
  have y1 := two_new w (NO kd (.slice P n pc) (.slice J k kc) (.slice M m mc) (.slice B 0 bc)) ZN
  have H0 := Lib.hid (bel_alloc (alb w (NO kd (.slice P n pc) (.slice J k kc) (.slice M m mc) (.slice B 0 bc))) ZN)
  have HS0 := Lib.hid (show w.heap.size + 2 ≤ ((w.alloc (NO kd (.slice P n pc) (.slice J k kc) (.slice M m mc) (.slice B 0 bc))).alloc ZN).heap.size by simp)
  have Z := Lib.hid y1.1
  have X := Lib.hid y1.2
  clear y1
  obtain ⟨c0, c1, c2, c3, c4⟩ := cells5 Z.out
  go_enter Try.func17, Try.ntmps17
  go_upto_region 2 with (first
    | (go_at_call 30; ((with_reducible refine (OA.out _ H0.out).mono ?_); rintro e w2 ⟨P2, p2, J2, j2, M2, m2, B2, b2, rfl, rr, b⟩; have RR := Lib.hid (rr.base HS0.out); replace H0 := Lib.hid (bel_trans H0.out b); replace Z := Lib.hid (keep_bel b Z.out); replace X := Lib.hid (keep_bel b X.out); clear b rr c0 c1 c2 c3 c4; obtain ⟨c0, c1, c2, c3, c4⟩ := cells5 Z.out; obtain ⟨f0, f1, f2, f3, f4⟩ := froz5 Z.out))
    | fail)
  generalize hW4 : World.setCell _ _ _ = W4
  have HC4 := Lib.hid (show Chg (fun g => g = w.heap.size) w2 W4 by rw [← hW4]; exact chg5 _ _ _ _ _ _ _)
  have Z4 := Lib.hid (show W4.heap[w.heap.size]? = some (NO kd (.slice P2 n p2) (.slice J2 k j2) (.slice M2 m m2) (.slice B2 0 b2)) from (by rw [← hW4]; exact set5w Z.out _ _ _ _ _))
  have X4 := Lib.hid (show W4.heap[w.heap.size + 1]? = some ZN from keep_chg HC4.out X.out (fun e => by omega))
  have RR4 := Lib.hid (RR.out.chgB HC4.out (by omega))
  have H4 := Lib.hid (bel_chg H0.out HC4.out (Nat.le_refl _))
  have HS4 := Lib.hid (show w.heap.size + 2 ≤ W4.heap.size by have := (Array.getElem?_eq_some_iff.1 X4.out).1; omega)
  clear hW4 c0 c1 c2 c3 c4 f0 f1 f2 f3 f4 Z X RR
  obtain ⟨c0, c1, c2, c3, c4⟩ := cells5 Z4.out
  go_upto_region 3 with (first
    | (go_at_call 47; ((with_reducible refine (BA.out M2 m2 _ RR4.out.r3.rd (HY.out _ H4.out)).mono ?_); rintro e w3 ⟨⟨M3, m3, rfl, r3⟩, b⟩; have R3 := Lib.hid (r3.base HS4.out); have RR5 := Lib.hid (RR4.out.later b); replace H4 := Lib.hid (bel_trans H4.out b); replace Z4 := Lib.hid (keep_bel b Z4.out); replace X4 := Lib.hid (keep_bel b X4.out); clear b r3 c0 c1 c2 c3 c4; obtain ⟨c0, c1, c2, c3, c4⟩ := cells5 Z4.out; obtain ⟨f0, f1, f2, f3, f4⟩ := froz5 Z4.out))
    | fail)
  generalize hW5 : World.setCell _ _ _ = W5
  have HC5 := Lib.hid (show Chg (fun g => g = w.heap.size) w3 W5 by rw [← hW5]; exact Chg.set _ _ rfl)
  have Z5 := Lib.hid (show W5.heap[w.heap.size]? = some (NO kd (.slice P2 n p2) (.slice J2 k j2) (.slice M3 (m + q) m3) (.slice B2 0 b2)) from (by rw [← hW5]; exact set5_3 Z4.out _))
  have X5 := Lib.hid (show W5.heap[w.heap.size + 1]? = some ZN from keep_chg HC5.out X4.out (fun e => by omega))
  have RR6 := Lib.hid (RR5.out.chgB HC5.out (by omega))
  have R5 := Lib.hid (R3.out.chgB HC5.out (by omega))
  have H5 := Lib.hid (bel_chg H4.out HC5.out (Nat.le_refl _))
  clear hW5 c0 c1 c2 c3 c4 f0 f1 f2 f3 f4 Z4 X4 RR5 R3
  obtain ⟨c0, c1, c2, c3, c4⟩ := cells5 Z5.out
  obtain ⟨k0, k1, k2, k3, k4⟩ := cells5 X5.out
  obtain ⟨f0, f1, f2, f3, f4⟩ := froz5 X5.out
  go_wp2
  refine bodyPost_ret (v := NV kd (.slice P2 n p2) (.slice J2 k j2) (.slice M3 (m + q) m3) (.slice B2 0 b2)) (by simp [results, Try.results17, go_sem, k0, k1, k2, k3, k4]) rfl ⟨P2, p2, J2, j2, M3, m3, B2, b2, rfl, ?_, ?_, ?_, ?_⟩
  · exact (RR6.out.r1.chgB (chg5 _ _ _ _ _ _ _) (by omega)).base (by omega)
  · exact (RR6.out.r2.chgB (chg5 _ _ _ _ _ _ _) (by omega)).base (by omega)
  · exact (R5.out.chgB (chg5 _ _ _ _ _ _ _) (by omega)).base (by omega)
  · exact bel_chg H5.out (chg5 _ _ _ _ _ _ _) (by omega)
end Go.Proofs.Ytilnpeekajnlhaa
namespace Go.Proofs.Ytilnpeekajnlhaa
open Go.RowKit Go.Maps
/-- A later world, and what lies in boxes. -/
structure SK (W : World) (Q : List (Nat × Obj)) (V : World) : Prop where
  b : Below W.heap.size W V
  q : ∀ p ∈ Q, V.heap[p.1]? = some p.2
theorem SK.g {W V : World} {Q : List (Nat × Obj)} (h : SK W Q V) (i : Nat) {g : Nat} {o : Obj} (hx : Q[i]? = some (g, o)) : V.heap[g]? = some o := h.q (g, o) (List.mem_of_getElem? hx)
theorem SK.later {W V V2 : World} {Q : List (Nat × Obj)} (h : SK W Q V) (b : Below V.heap.size V V2) : SK W Q V2 := ⟨bel_trans h.b b, fun p hp => keep_bel b (h.q p hp)⟩
theorem SK.start {W : World} {Q : List (Nat × Obj)} (h : ∀ p ∈ Q, W.heap[p.1]? = some p.2) : SK W Q W.drew := ⟨(Below.refl _ _).drew, fun p hp => h p hp⟩
theorem SK.chgN {W V V2 : World} {Q : List (Nat × Obj)} {g : Nat} (h : SK W Q V) (hs : ∀ p ∈ Q, W.heap[p.1]? = some p.2) (hc : Chg (fun x => x = g) V V2) (hg : W.heap.size ≤ g) : SK W Q V2 :=
  ⟨h.b.trans (hc.below (fun x e => by omega) h.b.size), fun p hp => keep_chg hc (h.q p hp) (fun e => by
    have := (Array.getElem?_eq_some_iff.1 (hs p hp)).1
    omega)⟩
theorem es_at {w : World} {A : Option Addr} {xs : List ByteArray} (h : ES.Rd w A xs) {i : Nat} {x : ByteArray} (hi : xs[i]? = some x) : ∃ b off, A = some ⟨b, off, none⟩ ∧ b < w.heap.size ∧ w.cell? ⟨b, off + i, none⟩ = some (.string x) := by
  obtain ⟨b, off, e, hb, k0⟩ := Pv.rds_get (es_rd.1 h) (k := i) (List.getElem?_eq_some_iff.1 hi).1
  exact ⟨b, off, e, hb, by rw [k0, Pv.at_, List.getD_eq_getElem?_getD, hi]; rfl⟩
end Go.Proofs.Ytilnpeekajnlhaa
namespace Go.Proofs.Ytilnpeekajnlhaa
open Go.RowKit Go.Maps
set_option maxRecDepth 100000 in
set_option maxHeartbeats 2000000 in
theorem same29 (A B : Option Addr) (n c d : Nat) (xs : List Int) (w : World) (hl : xs.length = n) (hn : n ≤ 1000) (hA : EI.Rd w A xs) (hB : EI.Rd w B xs) :
    Calls Try.prog 29 #[.slice A n c, .slice B n d] w fun r w' => r = .returned (.bool true) ∧ Below w.heap.size w w' := by
  have HL := Lib.hid hl
  have HA := Lib.hid hA
  have HB := Lib.hid hB
  clear hl hA hB
  go_enter Try.func29, Try.ntmps29
  go_wp2
  go_loopw [5] (fun iv wr => ∃ i : Nat, i ≤ n ∧ iv = .int .i64 i ∧ Below w.heap.size w wr) (fun iv _ => n - (intOf iv).toNat)
  case atStart => exact ⟨0, Nat.zero_le _, rfl, Below.refl _ _⟩
  case round =>
    obtain ⟨i, hi, rfl, hb⟩ := hrel
    have HBB := Lib.hid hb
    clear hb
    have hi0 : (0 : Int) ≤ (i : Int) := by omega
    have hi9 : (i : Int) ≤ 1000 := by omega
    by_cases hik : i < n
    · have hlt : (i : Int) < (n : Int) := by omega
      obtain ⟨x, hx⟩ : ∃ x, xs[i]? = some x := ⟨_, List.getElem?_eq_getElem (by rw [HL.out]; exact hik)⟩
      obtain ⟨b0, off, rfl, _, k0⟩ := ei_at (HA.out.later HBB.out) hx
      obtain ⟨b1, off1, rfl, _, k1⟩ := ei_at (HB.out.later HBB.out) hx
      clear hx
      go_wp2_with fail
      go_quiet (fail)
      go_wp2
      exact ⟨⟨i + 1, by omega, by simp, bel_drewN HBB.out _⟩, by simp [intOf]; omega⟩
    · have hlt : ¬ (i : Int) < (n : Int) := by omega
      go_wp2
      go_ret
      exact ⟨rfl, HBB.out⟩
end Go.Proofs.Ytilnpeekajnlhaa
namespace Go.Proofs.Ytilnpeekajnlhaa.Pv
open Go.RowKit

theorem prtK_iff {p : List ByteArray} {s : ByteArray} (H : ∀ i j, i < j → j < p.length → lt (at_ p i) (at_ p j) = true) : ∀ k, k ≤ p.length → ∀ j, j < k → (j < prtK p s k ↔ lt s (at_ p j) = false) := by
  intro k
  induction k with
  | zero => intro _ j hj; omega
  | succ k ih =>
    intro hk j hj
    have ih' := ih (by omega)
    have hle := prtK_le p s k
    cases h : lt s (at_ p k)
    · have hall : ∀ i, i < k → lt s (at_ p i) = false := by
        intro i hi
        cases h2 : lt s (at_ p i)
        · rfl
        · have := lt_trans h2 (H i k hi (by omega)); rw [h] at this; cases this
      have hge : k ≤ prtK p s k := by
        rcases Nat.eq_zero_or_pos k with h0 | h0
        · omega
        · have := (ih' (k - 1) (by omega)).2 (hall _ (by omega)); omega
      have e : prtK p s (k + 1) = prtK p s k + 1 := by simp only [prtK]; rw [h]; rfl
      rw [e]
      constructor
      · intro _
        rcases Nat.lt_or_ge j k with h3 | h3
        · exact hall j h3
        · obtain rfl : j = k := by omega
          exact h
      · intro _; omega
    · have e : prtK p s (k + 1) = prtK p s k := by simp only [prtK]; rw [h]; rfl
      rw [e]
      rcases Nat.lt_or_ge j k with h3 | h3
      · exact ih' j h3
      · obtain rfl : j = k := by omega
        rw [h]
        constructor
        · intro h4; omega
        · intro h4; cases h4
theorem prt_iff {p : List ByteArray} {s : ByteArray} (hr : risesB p = true) (j : Nat) (hj : j < p.length) : j < prt p s ↔ lt s (at_ p j) = false :=
  prtK_iff (fun i j' hi hj' => rise_all hr i j' hi hj') p.length (Nat.le_refl _) j hj
theorem prt_le (p : List ByteArray) (s : ByteArray) : prt p s ≤ p.length := prtK_le p s p.length
theorem emp_no {a b : ByteArray} (h : lt a b = true) : emp b = false := by
  cases he : emp b
  · rfl
  · unfold emp at he
    have : b.toList = [] := List.isEmpty_iff.1 he
    unfold lt at h
    rw [this, bl_nil] at h
    cases h
theorem sb_at {s b : ByteArray} (h : emp b = false) : sb s b = lt s b := by unfold sb; rw [h]; rfl
theorem has_iff (a b s : ByteArray) : has a b s = true ↔ lt s a = false ∧ sb s b = true := by unfold has; simp
theorem has_piece {p : List ByteArray} {f t : ByteArray} (h : rightB p f t = true) (s : ByteArray) (i : Nat) (hi : i ≤ p.length) : has (pF p f i) (pT p t i) s = (has f t s && (prt p s == i)) := by
  unfold rightB at h
  simp only [Bool.and_eq_true] at h
  obtain ⟨hin, hsb, hr⟩ := h
  have hin' := in_iff.1 hin
  have hpe : ∀ j, j < p.length → emp (at_ p j) = false := fun j hj => emp_no (hin' j hj).1
  have hple := prt_le p s
  rw [Bool.eq_iff_iff, Bool.and_eq_true, has_iff, has_iff, beq_iff_eq]
  have hF : ∀ (h0 : 0 < i), pF p f i = at_ p (i - 1) := fun h0 => by unfold pF; rw [if_pos h0]
  have hF0 : i = 0 → pF p f i = f := fun h0 => by subst h0; rfl
  have hT : i < p.length → pT p t i = at_ p i := fun h0 => by unfold pT; rw [if_pos h0]
  have hTn : i = p.length → pT p t i = t := fun h0 => by unfold pT; rw [if_neg (by omega)]
  constructor
  · rintro ⟨h1, h2⟩
    refine ⟨⟨?_, ?_⟩, ?_⟩
    · rcases Nat.eq_zero_or_pos i with h0 | h0
      · rw [hF0 h0] at h1; exact h1
      · rw [hF h0] at h1
        cases h3 : lt s f
        · rfl
        · have := lt_trans h3 (hin' (i - 1) (by omega)).1; rw [h1] at this; cases this
    · rcases Nat.lt_or_ge i p.length with h0 | h0
      · rw [hT h0, sb_at (hpe i h0)] at h2
        rcases (hin' i h0).2 with h3 | h3
        · unfold sb; rw [h3]; rfl
        · unfold sb; rw [lt_trans h2 h3]; simp
      · rw [hTn (by omega)] at h2; exact h2
    · have ge : i ≤ prt p s := by
        rcases Nat.eq_zero_or_pos i with h0 | h0
        · omega
        · rw [hF h0] at h1; have := (prt_iff hr (i - 1) (by omega)).2 h1; omega
      have le : prt p s ≤ i := by
        rcases Nat.lt_or_ge i p.length with h0 | h0
        · rw [hT h0, sb_at (hpe i h0)] at h2
          rcases Nat.lt_or_ge i (prt p s) with h3 | h3
          · have := (prt_iff hr i h0).1 h3; rw [h2] at this; cases this
          · exact h3
        · omega
      omega
  · rintro ⟨⟨h1, h2⟩, h3⟩
    constructor
    · rcases Nat.eq_zero_or_pos i with h0 | h0
      · rw [hF0 h0]; exact h1
      · rw [hF h0]; exact (prt_iff hr (i - 1) (by omega)).1 (by omega)
    · rcases Nat.lt_or_ge i p.length with h0 | h0
      · rw [hT h0, sb_at (hpe i h0)]
        cases h4 : lt s (at_ p i)
        · have := (prt_iff hr i h0).2 h4; omega
        · rfl
      · rw [hTn (by omega)]; exact h2
end Go.Proofs.Ytilnpeekajnlhaa.Pv
