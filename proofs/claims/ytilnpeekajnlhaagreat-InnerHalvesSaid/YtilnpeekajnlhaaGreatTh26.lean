/- Texts of the proof, one behind the other. -/
import Derived.Test.YtilnpeekajnlhaaGreatTh25
import Derived.Test.YtilnpeekajnlhaaGreatTh07
import Derived.Test.YtilnpeekajnlhaaGreatTh20
import Derived.Test.YtilnpeekajnlhaaGreatTh19
import Derived.Deep.Cut
import Derived.Test.YtilnpeekajnlhaaGreatTh15
import Derived.Test.YtilnpeekajnlhaaGreatTh02
import Derived.Test.YtilnpeekajnlhaaGreatTh14
import Derived.Test.YtilnpeekajnlhaaGreatTh13
set_option linter.unusedVariables false
set_option linter.unusedSimpArgs false
namespace Go.Proofs.YtilnpeekajnlhaaGreat
open Go.RowKit Go.Maps
theorem sym_any (b off n cap : Nat) (hn : n ≤ 1000) (hnc : n ≤ cap) : ∀ (N a m e : Nat) (P U V S : List MG) (w : World), U.length + V.length ≤ N → P.length = a → a + U.length = m → m + V.length = e → 1 ≤ U.length → 1 ≤ V.length → (P ++ U ++ V ++ S).length = n → Srt U → Srt V → InP w b off (P ++ U ++ V ++ S) w →
    Calls Tryz.prog 102 #[.slice (some ⟨b, off, none⟩) n cap, .int .i64 a, .int .i64 m, .int .i64 e, OF] w fun r w' => r = .returned (.tuple #[]) ∧ InP w b off (P ++ stab (U ++ V) ++ S) w' := by
  intro N
  induction N with
  | zero => intro a m e P U V S w h0 _ _ _ h1; omega
  | succ N ih =>
    intro a m e P U V S w h0 hp hm he h1 h2 hl hs ht hI
    by_cases k1 : U.length = 1
    · obtain ⟨x, rfl⟩ := List.length_eq_one_iff.1 k1
      simp only [List.singleton_append] at *
      exact sym_one b off n cap a m e P V S x w hp (by simpa using hm) he (by simpa using hl) ht hn hnc (by simpa using hI)
    · by_cases k2 : V.length = 1
      · obtain ⟨y, rfl⟩ := List.length_eq_one_iff.1 k2
        exact sym_last b off n cap a m e U.length P U S y w hp rfl hm (by simpa using he) (by omega) (by simpa using hl) hs hn hnc (by simpa using hI)
      · exact sym_gen b off n cap a m e U.length V.length P U V S w hp rfl rfl hm he (by omega) (by omega) hl hs ht hn hnc hI (fun a m e P U V S w k => ih a m e P U V S w (by omega))
theorem flat_len (D : List (List MG)) : (D.map stab).flatten.length = D.flatten.length := by
  induction D with
  | nil => rfl
  | cons d D ih => simp only [List.map_cons, List.flatten_cons, List.length_append, ih, stab_len]
set_option maxRecDepth 100000 in
set_option maxHeartbeats 16000000 in
theorem stable_any (b off n cap : Nat) (L : List MG) (w : World) (hl : L.length = n) (hn : n ≤ 1000) (hnc : n ≤ cap) (hI : InP w b off L w) :
    Calls Tryz.prog 92 #[.slice (some ⟨b, off, none⟩) n cap, .int .i64 n, OF] w fun r w' => r = .returned (.tuple #[]) ∧ InP w b off (stab L) w' := by
  have HL := Lib.hid hl
  have HI := Lib.hid hI
  clear hl hI
  go_enter Tryz.func92, Tryz.ntmps92
  go_wp2
  go_loopw [7, 8] (fun av bv wr => ∃ (a : Nat) (D : List (List MG)) (R : List MG), a ≤ n ∧ av = .int .i64 a ∧ bv = .int .i64 ((a + 20 : Nat) : Int) ∧ Hid ((∀ d ∈ D, d.length = 20) ∧ D.flatten.length = a ∧ L = D.flatten ++ R) ∧ InP w b off ((D.map stab).flatten ++ R) wr) (fun _ bv _ => n + 21 - (intOf bv).toNat)
  case atStart => exact ⟨0, [], L, by omega, rfl, by simp, Lib.hid ⟨fun d hd => (by cases hd), rfl, rfl⟩, HI.out⟩
  case round =>
    obtain ⟨a, D, R, ha, rfl, rfl, HD, hI⟩ := hrel
    have HW := Lib.hid hI
    clear hI
    obtain ⟨e, he⟩ : ∃ e, a + 20 = e := ⟨_, rfl⟩
    rw [he]
    have z0 : (0 : Int) ≤ (a : Int) := by omega
    have z1 : (a : Int) ≤ 1000 := by omega
    have z2 : (e : Int) ≤ 1020 := by omega
    have z3 : (0 : Int) ≤ (e : Int) := by omega
    have HRL := Lib.hid (show a + R.length = n by have := HL.out; rw [HD.out.2.2, List.length_append, HD.out.2.1] at this; exact this)
    by_cases h : e ≤ n
    · have h1 : (e : Int) ≤ (n : Int) := by omega
      have h2 : (R.take 20).length = 20 := by rw [List.length_take]; have := HRL.out; omega
      have AI := Lib.hid (ins_any b off n cap a e (D.map stab).flatten (R.take 20) (R.drop 20) wr (by rw [List.append_assoc, List.take_append_drop, List.length_append, flat_len, HD.out.2.1]; exact HRL.out) (by rw [flat_len]; exact HD.out.2.1) (by omega) hn hnc (by rw [List.append_assoc, List.take_append_drop]; exact HW.out.refl))
      have HN := Lib.hid (show (∀ d ∈ D ++ [R.take 20], d.length = 20) ∧ (D ++ [R.take 20]).flatten.length = e ∧ L = (D ++ [R.take 20]).flatten ++ R.drop 20 by
        refine ⟨fun d hd => ?_, ?_, ?_⟩
        · rcases List.mem_append.1 hd with hd | hd
          · exact HD.out.1 d hd
          · rw [List.mem_singleton.1 hd]; exact h2
        · rw [List.flatten_append, List.length_append, HD.out.2.1]; simp; have := HRL.out; omega
        · rw [List.flatten_append]; simp [HD.out.2.2])
      have HE := Lib.hid he
      clear h2 he
      go_wp2_with (first
        | (go_at_call 101; ((with_reducible refine AI.out.mono ?_); rintro r w1 ⟨rfl, c1⟩; have C1 := Lib.hid (HW.out.trans c1); clear c1))
        | fail)
      exact ⟨⟨e, D ++ [R.take 20], R.drop 20, h, rfl, by simp, HN, by have z := C1.out; simpa using z⟩, by simp [intOf]; have := HE.out; omega⟩
    · have h1 : ¬ (e : Int) ≤ (n : Int) := by omega
      have AI := Lib.hid (ins_any b off n cap a n (D.map stab).flatten R [] wr (by rw [List.append_nil, List.length_append, flat_len, HD.out.2.1]; exact HRL.out) (by rw [flat_len]; exact HD.out.2.1) HRL.out hn hnc (by rw [List.append_nil]; exact HW.out.refl))
      have HRS := Lib.hid (show R.length < 20 by have := HRL.out; omega)
      clear he
      go_wp2_with (first
        | (go_at_call 101; ((with_reducible refine AI.out.mono ?_); rintro r w1 ⟨rfl, c1⟩; have C1 := Lib.hid (HW.out.trans c1); clear c1))
        | fail)
      go_loopw [6] (fun bv wr => ∃ (bs : Nat) (D : List (List MG)) (R : List MG), 20 ≤ bs ∧ bs ≤ 2000 ∧ bv = .int .i64 bs ∧ Hid ((∀ d ∈ D, d.length = bs) ∧ R.length < bs ∧ L = D.flatten ++ R) ∧ InP w b off ((D.map stab).flatten ++ stab R) wr) (fun bv _ => 2000 - (intOf bv).toNat)
      case atStart => exact ⟨20, D, R, by omega, by omega, rfl, Lib.hid ⟨HD.out.1, HRS.out, HD.out.2.2⟩, by have z := C1.out; simpa using z⟩
      case round =>
        clear HD HW HRL HRS AI C1 h h1 ha z0 z1 z2 z3
        obtain ⟨bs, D, R, hb1, hb2, rfl, HD, hI⟩ := hrel
        have HW := Lib.hid hI
        clear hI
        have y1 : (0 : Int) ≤ (bs : Int) := by omega
        have y2 : (bs : Int) ≤ 2000 := by omega
        by_cases hb : bs < n
        · have hbi : (bs : Int) < (n : Int) := by omega
          obtain ⟨b2, hb3⟩ : ∃ b2, 2 * bs = b2 := ⟨_, rfl⟩
          have y3 : 2 * (bs : Int) = (b2 : Int) := by omega
          have y3b : (bs : Int) * 2 = (b2 : Int) := by omega
          have y4 : (b2 : Int) ≤ 2000 := by omega
          have y5 : (0 : Int) ≤ (b2 : Int) := by omega
          have HB2 := Lib.hid hb3
          clear hb3
          go_wp2
          go_loopw [7, 8] (fun av bv wr => ∃ (a : Nat) (E F : List (List MG)), a ≤ n ∧ av = .int .i64 a ∧ bv = .int .i64 ((a + b2 : Nat) : Int) ∧ Hid ((∀ d ∈ E, d.length = b2) ∧ (∀ d ∈ F, d.length = bs) ∧ E.flatten.length = a ∧ L = E.flatten ++ (F.flatten ++ R)) ∧ InP w b off ((E.map stab).flatten ++ ((F.map stab).flatten ++ stab R)) wr) (fun _ bv _ => n + b2 + 1 - (intOf bv).toNat)
          case atStart => exact ⟨0, [], D, by omega, rfl, by simp, Lib.hid ⟨fun d hd => (by cases hd), HD.out.1, rfl, HD.out.2.2⟩, HW.out⟩
          case round =>
            clear HW
            obtain ⟨a, E, F, ha, rfl, rfl, HF, hI⟩ := hrel
            have HW := Lib.hid hI
            clear hI
            obtain ⟨e, he⟩ : ∃ e, a + b2 = e := ⟨_, rfl⟩
            rw [he]
            have z0 : (0 : Int) ≤ (a : Int) := by omega
            have z1 : (a : Int) ≤ 1000 := by omega
            have z2 : (e : Int) ≤ 3000 := by omega
            have z3 : (0 : Int) ≤ (e : Int) := by omega
            obtain ⟨m, hm⟩ : ∃ m, a + bs = m := ⟨_, rfl⟩
            have z4 : (a : Int) + (bs : Int) = (m : Int) := by omega
            have z5 : (0 : Int) ≤ (m : Int) := by omega
            have z6 : (m : Int) ≤ 3000 := by omega
            have HRL := Lib.hid (show a + (F.flatten.length + R.length) = n by
              have := HL.out
              rw [HF.out.2.2.2, List.length_append, HF.out.2.2.1, List.length_append] at this; exact this)
            by_cases h : e ≤ n
            · have h1 : (e : Int) ≤ (n : Int) := by omega
              obtain ⟨d1, d2, F2, hF⟩ : ∃ d1 d2 F2, F = d1 :: d2 :: F2 := by
                have r1 := HRL.out
                have r2 := HD.out.2.1
                have r3 := HF.out.2.1
                have r4 := HB2.out
                match F, r1, r3 with
                | [], r1, _ => simp at r1; omega
                | [d], r1, r3 => have := r3 d List.mem_cons_self; simp at r1; omega
                | d1 :: d2 :: F2, _, _ => exact ⟨d1, d2, F2, rfl⟩
              subst hF
              have l1 := HF.out.2.1 d1 List.mem_cons_self
              have l2 := HF.out.2.1 d2 (List.mem_cons_of_mem _ List.mem_cons_self)
              have AI := Lib.hid (sym_any b off n cap hn hnc _ a m e (E.map stab).flatten (stab d1) (stab d2) ((F2.map stab).flatten ++ stab R) wr (Nat.le_refl _) (by rw [flat_len]; exact HF.out.2.2.1) (by rw [stab_len]; omega) (by rw [stab_len]; have := HB2.out; omega) (by rw [stab_len]; omega) (by rw [stab_len]; omega) (by
                have r1 := HRL.out
                simp only [List.length_append, flat_len, stab_len, List.flatten_cons] at r1 ⊢
                have := HF.out.2.2.1
                omega) (srt_stab _) (srt_stab _) (by have z := HW.out.refl; simpa using z))
              rw [stab_stab] at AI
              have HN := Lib.hid (show (∀ d ∈ E ++ [d1 ++ d2], d.length = b2) ∧ (∀ d ∈ F2, d.length = bs) ∧ (E ++ [d1 ++ d2]).flatten.length = e ∧ L = (E ++ [d1 ++ d2]).flatten ++ (F2.flatten ++ R) by
                have hf := HF.out
                have := HB2.out
                refine ⟨fun d hd => ?_, fun d hd => hf.2.1 d (List.mem_cons_of_mem _ (List.mem_cons_of_mem _ hd)), ?_, ?_⟩
                · rcases List.mem_append.1 hd with hd | hd
                  · exact hf.1 d hd
                  · rw [List.mem_singleton.1 hd, List.length_append]; omega
                · rw [List.flatten_append, List.length_append, hf.2.2.1]; simp; omega
                · rw [List.flatten_append]; simp [hf.2.2.2])
              have HE := Lib.hid he
              clear l1 l2 he hm
              go_wp2_with (first
                | (go_at_call 102; ((with_reducible refine AI.out.mono ?_); rintro r w1 ⟨rfl, c1⟩; have C1 := Lib.hid (HW.out.trans c1); clear c1))
                | fail)
              exact ⟨⟨e, E ++ [d1 ++ d2], F2, h, rfl, by simp, HN, by have z := C1.out; simpa using z⟩, by simp [intOf]; have := HE.out; have := HB2.out; omega⟩
            · have h1 : ¬ (e : Int) ≤ (n : Int) := by omega
              have hF : F = [] ∨ ∃ d, F = [d] := by
                have r1 := HRL.out
                have r3 := HF.out.2.1
                have r4 := HB2.out
                match F, r1, r3 with
                | [], _, _ => exact .inl rfl
                | [d], _, _ => exact .inr ⟨d, rfl⟩
                | d1 :: d2 :: F2, r1, r3 =>
                  have := r3 d1 List.mem_cons_self
                  have := r3 d2 (List.mem_cons_of_mem _ List.mem_cons_self)
                  simp at r1; omega
              have HN := Lib.hid (show (∀ d ∈ E, d.length = b2) ∧ (F.flatten ++ R).length < b2 ∧ L = E.flatten ++ (F.flatten ++ R) by
                refine ⟨HF.out.1, ?_, HF.out.2.2.2⟩
                have := HRL.out; rw [List.length_append]; omega)
              have HM := Lib.hid (show b2 ≤ 2000 ∧ 20 ≤ b2 ∧ bs < b2 by have := HB2.out; omega)
              by_cases hmn : m < n
              · have m1 : (m : Int) < (n : Int) := by omega
                obtain ⟨d, rfl⟩ : ∃ d, F = [d] := by
                  rcases hF with e1 | e1
                  · have r1 := HRL.out; rw [e1] at r1; simp at r1; have := HD.out.2.1; omega
                  · exact e1
                have l1 := HF.out.2.1 d List.mem_cons_self
                have l2 : m + R.length = n := by have := HRL.out; simp at this; omega
                have AI := Lib.hid (sym_any b off n cap hn hnc _ a m n (E.map stab).flatten (stab d) (stab R) [] wr (Nat.le_refl _) (by rw [flat_len]; exact HF.out.2.2.1) (by rw [stab_len]; omega) (by rw [stab_len]; exact l2) (by rw [stab_len]; omega) (by rw [stab_len]; omega) (by
                  simp only [List.length_append, flat_len, stab_len, List.length_nil]
                  have := HF.out.2.2.1
                  omega) (srt_stab _) (srt_stab _) (by have z := HW.out.refl; simpa using z))
                rw [stab_stab] at AI
                clear l1 l2 he hm hF
                go_wp2_with (first
                  | (go_at_call 102; ((with_reducible refine AI.out.mono ?_); rintro r w1 ⟨rfl, c1⟩; have C1 := Lib.hid (HW.out.trans c1); clear c1))
                  | fail)
                exact ⟨⟨b2, E, [d].flatten ++ R, HM.out.2.1, HM.out.1, rfl, HN, by have z := C1.out; simpa using z⟩, by simp [intOf]; have := HM.out; omega⟩
              · have m1 : ¬ (m : Int) < (n : Int) := by omega
                have HC := Lib.hid (show InP w b off ((E.map stab).flatten ++ stab (F.flatten ++ R)) wr by
                  have z := HW.out
                  rcases hF with e1 | ⟨d, e1⟩
                  · rw [e1] at z ⊢; simpa using z
                  · have r1 := HRL.out
                    have r2 := HF.out.2.1 d (by rw [e1]; exact List.mem_cons_self)
                    rw [e1] at z r1 ⊢
                    have r3 : R = [] := List.eq_nil_of_length_eq_zero (by simp at r1; omega)
                    rw [r3] at z ⊢
                    simpa [stab, accM] using z)
                clear he hm hF
                go_wp2
                exact ⟨⟨b2, E, F.flatten ++ R, HM.out.2.1, HM.out.1, rfl, HN, HC.out⟩, by simp [intOf]; have := HM.out; omega⟩
        · have hbi : ¬ (bs : Int) < (n : Int) := by omega
          have HC := Lib.hid (show InP w b off (stab L) wr by
            have z := HW.out
            have hl := HL.out
            have hd := HD.out
            match D, hd, z with
            | [], hd, z => rw [hd.2.2]; simpa using z
            | [d], hd, z =>
              have r1 := hd.1 d List.mem_cons_self
              have r2 : R = [] := by
                rw [hd.2.2] at hl; simp at hl
                exact List.eq_nil_of_length_eq_zero (by omega)
              rw [r2] at z hd
              rw [hd.2.2]
              simpa [stab, accM] using z
            | d1 :: d2 :: D2, hd, z =>
              exfalso
              have r1 := hd.1 d1 List.mem_cons_self
              have r2 := hd.1 d2 (List.mem_cons_of_mem _ List.mem_cons_self)
              rw [hd.2.2] at hl; simp at hl; omega)
          clear HW
          go_wp2
          go_end0
          exact ⟨rfl, HC.out⟩
end Go.Proofs.YtilnpeekajnlhaaGreat
namespace Go.Proofs.YtilnpeekajnlhaaGreat
open Go.RowKit Go.Maps
set_option maxHeartbeats 2000000 in
theorem ins_none (A : Option Addr) (c : Nat) (w : World) :
    Calls Tryz.prog 101 #[.slice A 0 c, .int .i64 0, .int .i64 0, OF] w fun r w' => r = .returned (.tuple #[]) ∧ w = w' := by
  go_enter Tryz.func101, Tryz.ntmps101
  go_wp2
  go_loopw [8] (fun iv wr => iv = .int .i64 1 ∧ w = wr) (fun _ _ => 0)
  case atStart => exact ⟨by simp, rfl⟩
  case round =>
    obtain ⟨rfl, rfl⟩ := hrel
    go_wp2
    go_end0
    exact ⟨rfl, rfl⟩
set_option maxHeartbeats 2000000 in
theorem stable_none (A : Option Addr) (c : Nat) (w : World) :
    Calls Tryz.prog 92 #[.slice A 0 c, .int .i64 0, OF] w fun r w' => r = .returned (.tuple #[]) ∧ w = w' := by
  have AI := Lib.hid (ins_none A c)
  go_enter Tryz.func92, Tryz.ntmps92
  go_wp2
  go_loopw [7, 8] (fun av iv wr => av = .int .i64 0 ∧ iv = .int .i64 20 ∧ w = wr) (fun _ _ _ => 0)
  case atStart => exact ⟨rfl, rfl, rfl⟩
  case round =>
    obtain ⟨rfl, rfl, rfl⟩ := hrel
    go_wp2_with (first
      | (go_at_call 101; ((with_reducible refine (AI.out _).mono ?_); rintro e w1 ⟨rfl, rfl⟩))
      | fail)
    go_loopw [6] (fun iv wr => iv = .int .i64 20 ∧ w = wr) (fun i _ => 0)
    case atStart => exact ⟨rfl, rfl⟩
    case round =>
      obtain ⟨rfl, rfl⟩ := hrel
      go_wp2
      go_end0
      exact ⟨rfl, rfl⟩
theorem sort_none (A : Option Addr) (c : Nat) (w : World) :
    Calls Tryz.prog 71 #[.slice A 0 c, OF] w fun r w' => r = .returned (.tuple #[]) ∧ w = w' := by
  have AI := Lib.hid (stable_none A c w)
  go_enter Tryz.func71, Tryz.ntmps71
  go_wp2_with (first
    | (go_at_call 92; ((with_reducible refine AI.out.mono ?_); rintro e w1 ⟨rfl, rfl⟩))
    | fail)
  go_end0
  exact ⟨rfl, rfl⟩
theorem sort_some (b off n cap : Nat) (L : List MG) (w : World) (hl : L.length = n) (hn : n ≤ 1000) (hnc : n ≤ cap) (hI : InP w b off L w) :
    Calls Tryz.prog 71 #[.slice (some ⟨b, off, none⟩) n cap, OF] w fun r w' => r = .returned (.tuple #[]) ∧ InP w b off (stab L) w' := by
  have AI := Lib.hid (stable_any b off n cap L w hl hn hnc hI)
  clear hl hI
  go_enter Tryz.func71, Tryz.ntmps71
  go_wp2_with (first
    | (go_at_call 92; ((with_reducible refine AI.out.mono ?_); rintro e w1 ⟨rfl, c1⟩; have C1 := Lib.hid c1; clear c1))
    | fail)
  go_end0
  exact ⟨rfl, C1.out⟩
end Go.Proofs.YtilnpeekajnlhaaGreat
namespace Go.Proofs.YtilnpeekajnlhaaGreat
open Go.RowKit Go.Maps
/-- A row that lies in new memory. -/
def NewR {α : Type} (E : RE α) (W : World) (base : Nat) (A : Option Addr) (l : List α) : Prop := E.Rd W A l ∧ (l = [] ∨ ∃ b off cs t, A = some ⟨b, off, none⟩ ∧ base ≤ b ∧ W.heap[b]? = some (.cells cs t (0, 0)))
theorem NewR.base {α : Type} {E : RE α} {W : World} {base b2 : Nat} {A : Option Addr} {l : List α} (h : NewR E W base A l) (hb : b2 ≤ base) : NewR E W b2 A l :=
  ⟨h.1, h.2.imp id (fun ⟨b, off, cs, t, e, h2, h3⟩ => ⟨b, off, cs, t, e, Nat.le_trans hb h2, h3⟩)⟩
theorem NewR.chgB {α : Type} {E : RE α} {W W' : World} {base N : Nat} {A : Option Addr} {l : List α} (h : NewR E W base A l) (hc : Chg (fun g => g = N) W W') (hN : N < base) : NewR E W' base A l := by
  rcases h with ⟨h1, h2⟩
  rcases h2 with rfl | ⟨b, off, cs, t, rfl, hb, hz⟩
  · exact ⟨.inl rfl, .inl rfl⟩
  · refine ⟨?_, .inr ⟨b, off, cs, t, rfl, hb, keep_chg hc hz (fun e => by omega)⟩⟩
    rcases h1 with h1 | ⟨b', off', e, hlt, hv⟩
    · exact .inl h1
    · cases e
      exact .inr ⟨b, off, rfl, Nat.lt_of_lt_of_le hlt hc.size, fun j u hj => (World.cell?_of_block (hc.block b hlt (fun e => by omega))).trans (hv j u hj)⟩
theorem NewR.later {α : Type} {E : RE α} {W W' : World} {base : Nat} {A : Option Addr} {l : List α} (h : NewR E W base A l) (hb : Below W.heap.size W W') : NewR E W' base A l := ⟨h.1.later hb, h.2.imp id (fun ⟨b, off, cs, t, e, h2, h3⟩ => ⟨b, off, cs, t, e, h2, keep_bel hb h3⟩)⟩
theorem sort_new (A : Option Addr) (n c base : Nat) (L : List MG) (w : World) (hl : L.length = n) (hn : n ≤ 1000) (hR : EG.Row w base A L c) (hb : base ≤ w.heap.size) :
    Calls Tryz.prog 71 #[.slice A n c, OF] w fun r w' => r = .returned (.tuple #[]) ∧ NewR EG w' base A (stab L) ∧ Below base w w' := by
  by_cases h0 : n = 0
  · subst h0
    have e : L = [] := List.eq_nil_of_length_eq_zero hl
    refine (sort_none A c w).mono ?_
    rintro e w1 ⟨rfl, rfl⟩
    subst L
    exact ⟨rfl, ⟨.inl rfl, .inl rfl⟩, Below.refl _ _⟩
  · obtain ⟨x, hx⟩ : ∃ x, x ∈ L := ⟨_, List.getElem_mem (show 0 < L.length by omega)⟩
    obtain ⟨b, rfl, h1, h2, h3, h4, h5⟩ := inp_of_row hR hx
    refine (sort_some b 0 n c L w hl hn (by omega) h3).mono ?_
    rintro e w1 ⟨rfl, hI⟩
    obtain ⟨cs, hz, -⟩ := hI.obj
    exact ⟨rfl, ⟨hI.rd, .inr ⟨b, 0, cs, 50, rfl, h1, hz⟩⟩, hI.chg.below (fun g hg => by rw [hg]; exact h1) hb⟩
set_option maxHeartbeats 2000000 in
theorem badd_new (A B : Option Addr) (n c m d : Nat) (xs ys : List MG) (w : World) (hx : xs.length = n) (hy : ys.length = m) (hn : n ≤ 100) (hm : m ≤ 100) (hA : EG.Rd w A xs) (hB : EG.Rd w B ys) :
    Calls Tryz.prog 36 #[.slice A n c, .slice B m d] w fun r w' => (∃ A' c', r = .returned (.slice A' (n + m) c') ∧ NewR EG w' w.heap.size A' (stab (xs ++ ys))) ∧ Below w.heap.size w w' := by
  have H0 := Lib.hid (alb w (.cells #[.slice A n c, .slice B m d] 25))
  have AC := Lib.hid (concat_any w.heap.size A B n c m d xs ys (w.alloc (.cells #[.slice A n c, .slice B m d] 25)) (heap_alloc_new _ _) hx hy hn hm (hA.later (alb _ _)) (hB.later (alb _ _)))
  have HLEN := Lib.hid (show (xs ++ ys).length = n + m by rw [List.length_append, hx, hy])
  clear hx hy hA hB
  go_enter Tryz.func36, Tryz.ntmps36
  go_wp2_with (first
    | (go_at_call 70; ((with_reducible refine AC.out.mono ?_); rintro e w1 ⟨⟨A', c', rfl, r1⟩, b1⟩; have AS := Lib.hid (sort_new A' (n + m) c' _ (xs ++ ys) w1 HLEN.out (by omega) r1 b1.size); have B1 := Lib.hid (bel_trans H0.out b1); clear b1 r1))
    | (go_at_call 71; ((with_reducible refine AS.out.mono ?_); rintro e w2 ⟨rfl, r2, b2⟩; have R2 := Lib.hid r2; have B2 := Lib.hid (B1.out.trans (b2.mono H0.out.size)); clear b2 r2))
    | fail)
  go_ret
  exact ⟨⟨_, _, rfl, R2.out.base (by simp)⟩, B2.out⟩

/-- A node with other messages, in new memory. -/
def AddP (w : World) (kd : Int) (n k m : Nat) (ps : List ByteArray) (ks : List Int) (L : List MG) (e : Ending) (w' : World) : Prop :=
  ∃ P pc J kc M mc B bc, e = .returned (NV kd (.slice P n pc) (.slice J k kc) (.slice M m mc) (.slice B 0 bc)) ∧ ES.Row w' w.heap.size P ps pc ∧ EI.Row w' w.heap.size J ks kc ∧ NewR EG w' w.heap.size M L ∧ Below w.heap.size w w'
theorem set5_0' {W : World} {g : Nat} {a b c d e : Value} {t : TypeId} (z : W.heap[g]? = some (.cells #[a, b, c, d, e] t (0, 0))) (v : Value) : (W.setCell ⟨g, 0, none⟩ v).heap[g]? = some (.cells #[v, b, c, d, e] t (0, 0)) := by
  have hlt : g < W.heap.size := (Array.getElem?_eq_some_iff.1 z).1
  have q : W.heap[g] = .cells #[a, b, c, d, e] t (0, 0) := by have := z; rw [Array.getElem?_eq_getElem hlt] at this; exact Option.some.inj this
  rw [Array.getElem?_eq_getElem (by simpa [World.setCell] using hlt)]
  simp [World.setCell, Array.getElem_modify, q]
theorem set5w {W : World} {g : Nat} {a b c d e : Value} {t : TypeId} (z : W.heap[g]? = some (.cells #[a, b, c, d, e] t (0, 0))) (a' b' c' d' e' : Value) : (((((W.setCell ⟨g, 0, none⟩ a').setCell ⟨g, 1, none⟩ b').setCell ⟨g, 2, none⟩ c').setCell ⟨g, 3, none⟩ d').setCell ⟨g, 4, none⟩ e').heap[g]? = some (.cells #[a', b', c', d', e'] t (0, 0)) :=
  set5_4 (set5_3 (set5_2 (set5_1 (set5_0' z _) _) _) _) _
end Go.Proofs.YtilnpeekajnlhaaGreat
namespace Go.Proofs.YtilnpeekajnlhaaGreat
open Go.RowKit Go.Maps
/-- A later world, and what lies in boxes. -/
structure SK (W : World) (Q : List (Nat × Obj)) (V : World) : Prop where
  b : Below W.heap.size W V
  q : ∀ p ∈ Q, V.heap[p.1]? = some p.2
theorem SK.g {W V : World} {Q : List (Nat × Obj)} (h : SK W Q V) (i : Nat) {g : Nat} {o : Obj} (hx : Q[i]? = some (g, o)) : V.heap[g]? = some o := h.q (g, o) (List.mem_of_getElem? hx)
theorem SK.later {W V V2 : World} {Q : List (Nat × Obj)} (h : SK W Q V) (b : Below V.heap.size V V2) : SK W Q V2 := ⟨bel_trans h.b b, fun p hp => keep_bel b (h.q p hp)⟩
theorem SK.start {W : World} {Q : List (Nat × Obj)} (h : ∀ p ∈ Q, W.heap[p.1]? = some p.2) : SK W Q W.drew := ⟨(Below.refl _ _).drew, fun p hp => h p hp⟩
theorem SK.chgN {W V V2 : World} {Q : List (Nat × Obj)} {g : Nat} (h : SK W Q V) (hs : ∀ p ∈ Q, W.heap[p.1]? = some p.2) (hc : Chg (fun x => x = g) V V2) (hg : W.heap.size ≤ g) : SK W Q V2 :=
  ⟨h.b.trans (hc.below (fun x e => by omega) h.b.size), fun p hp => keep_chg hc (h.q p hp) (fun e => by
    have := (Array.getElem?_eq_some_iff.1 (hs p hp)).1
    omega)⟩
theorem es_at {w : World} {A : Option Addr} {xs : List ByteArray} (h : ES.Rd w A xs) {i : Nat} {x : ByteArray} (hi : xs[i]? = some x) : ∃ b off, A = some ⟨b, off, none⟩ ∧ b < w.heap.size ∧ w.cell? ⟨b, off + i, none⟩ = some (.string x) := by
  obtain ⟨b, off, e, hb, k0⟩ := Pv.rds_get (es_rd.1 h) (k := i) (List.getElem?_eq_some_iff.1 hi).1
  exact ⟨b, off, e, hb, by rw [k0, Pv.at_, List.getD_eq_getElem?_getD, hi]; rfl⟩
end Go.Proofs.YtilnpeekajnlhaaGreat
namespace Go.Proofs.YtilnpeekajnlhaaGreat
open Go.RowKit Go.Maps
end Go.Proofs.YtilnpeekajnlhaaGreat
namespace Go.Proofs.YtilnpeekajnlhaaGreat.Pv
open Go.RowKit

theorem emp_no {a b : ByteArray} (h : lt a b = true) : emp b = false := by
  cases he : emp b
  · rfl
  · unfold emp at he
    have : b.toList = [] := List.isEmpty_iff.1 he
    unfold lt at h
    rw [this, bl_nil] at h
    cases h
end Go.Proofs.YtilnpeekajnlhaaGreat.Pv
namespace Go.Proofs.YtilnpeekajnlhaaGreat
open Go.RowKit Go.Maps
theorem chg2 (W : World) (g : Nat) (a b : Value) : Chg (fun x => x = g) W ((W.setCell ⟨g, 0, none⟩ a).setCell ⟨g, 1, none⟩ b) :=
  have h : ∀ (V : World) (p : Nat) (v : Value), Chg (fun x => x = g) V (V.setCell ⟨g, p, none⟩ v) := fun V p v => Chg.set V v rfl
  (h _ _ _).trans (h _ _ _) (fun g hg => .inl hg)
theorem set2w {W : World} {g : Nat} {x y : ByteArray} (z : W.heap[g]? = some (rgc x y)) (a b : ByteArray) : ((W.setCell ⟨g, 0, none⟩ (.string a)).setCell ⟨g, 1, none⟩ (.string b)).heap[g]? = some (rgc a b) := by
  simp [World.setCell, Array.getElem?_modify, z]
set_option maxRecDepth 100000 in
set_option maxHeartbeats 4000000 in
theorem split27 (f t a : ByteArray) (w : World) (h1 : sb f t = true) (h2 : lt f a = true) (h3 : sb a t = true) :
    Calls Tryz.prog 10 #[.agg #[.string f, .string t], .string a] w fun e w' => e = .returned (.tuple #[.agg #[.string f, .string a], .agg #[.string a, .string t], .bool true]) ∧ Below w.heap.size w w' := by
  have RA := Lib.hid (fun W => rright_any f t W)
  rw [h1] at RA
  have hna : lt a f = false := nlt_of_lt h2
  have g2 : Op.bytesLess f.toList a.toList = true := h2
  have g2b : Op.bytesLess a.toList f.toList = false := hna
  have g2c : (a.toList == f.toList) = false := by
    cases q : (a.toList == f.toList)
    · rfl
    · rw [beq_iff_eq] at q; rw [q, bl_irr] at g2; cases g2
  have y1 := three_new w (rgc f t) (rgc emptyS emptyS) (rgc emptyS emptyS)
  have H0 := Lib.hid (bel_alloc (bel_alloc (alb w (rgc f t)) (rgc emptyS emptyS)) (rgc emptyS emptyS))
  have Z := Lib.hid y1.1
  have X := Lib.hid y1.2.1
  have Y := Lib.hid y1.2.2
  clear y1
  obtain ⟨e0, e1, -, -⟩ := has_two Z.out
  cases ht : emp t
  · have h4 : lt a t = true := by unfold sb at h3; rw [ht] at h3; exact h3
    have g4 : Op.bytesLess t.toList a.toList = false := nlt_of_lt h4
    have g4a : Op.bytesLess a.toList t.toList = true := h4
    have g4b : (t.toList == a.toList) = false := by
      cases q : (t.toList == a.toList)
      · rfl
      · rw [beq_iff_eq] at q; rw [q, bl_irr] at g4a; cases g4a
    have g5 : (t.toList == []) = false := by unfold emp at ht; cases q : t.toList <;> simp_all
    have g6 : t.toList.isEmpty = false := ht
    clear h1 h2 h3 h4 hna ht
    go_enter Tryz.func10, Tryz.ntmps10
    go_upto_region 3 with (first
      | (go_at_call 28; ((with_reducible refine (RA.out _).mono ?_); rintro e w1 ⟨rfl, b⟩; replace H0 := Lib.hid (bel_trans H0.out b); replace Z := Lib.hid (keep_bel b Z.out); replace X := Lib.hid (keep_bel b X.out); replace Y := Lib.hid (keep_bel b Y.out); clear b e0 e1; obtain ⟨e0, e1, -, -⟩ := has_two Z.out))
      | fail)
    obtain ⟨c0, c1, f0, f1⟩ := has_two X.out
    obtain ⟨d0, d1, g0, g1⟩ := has_two Y.out
    refine wp_region_held_drew (S := (fun V : World => V.heap[w.heap.size]? = some (rgc f t))) (by kernel_rfl) ?_ (fun hHeld => ?_)
    · exact Z.out
    have HHeld := Lib.hid hHeld; clear hHeld
    refine wT (i := 0) (oi := { dst := some 29, op := Op.fieldAddr 30 (Operand.tmp 2) 0, type := 0, pos := "ref.go:50", after := #[], guard := none }) (v := ?_) rfl (Or.inl ⟨by rfl, ?_⟩) HHeld.out ?_
    rotate_left
    · intro w hSw; clear hSw; go_simp; try with_reducible rfl
    try simp only [pu, pn, s1, s2, s3]
    refine wT (i := 1) (oi := { dst := some 30, op := Op.load 9 (Operand.tmp 29), type := 9, pos := "ref.go:50", after := #[{ on := 0, ground := Ground.data }], guard := none }) (v := (.string f : Value)) rfl (Or.inl ⟨by rfl, ?_⟩) HHeld.out ?_
    · intro V hV; have hc0 := (has_two hV).1; clear hV; go_simp
    try simp only [pu, pn, s1, s2, s3]
    refine wT (i := 2) (oi := { dst := some 31, op := Op.move (Operand.tmp 1), type := 9, pos := "ref.go:50", after := #[], guard := none }) (v := ?_) rfl (Or.inl ⟨by rfl, ?_⟩) HHeld.out ?_
    rotate_left
    · intro w hSw; clear hSw; go_simp; try with_reducible rfl
    try simp only [pu, pn, s1, s2, s3]
    refine wT (i := 3) (oi := { dst := some 32, op := Op.build 30 #[(0, Operand.tmp 30), (1, Operand.tmp 31)], type := 30, pos := "ref.go:50", after := #[{ on := 1, ground := Ground.data }, { on := 2, ground := Ground.data }], guard := none }) (v := ?_) rfl (Or.inl ⟨by rfl, ?_⟩) HHeld.out ?_
    rotate_left
    · intro w hSw; clear hSw; go_simp; try with_reducible rfl
    try simp only [pu, pn, s1, s2, s3]
    refine wT (i := 4) (oi := { dst := some 33, op := Op.move (Operand.tmp 1), type := 9, pos := "ref.go:50", after := #[{ on := 8, ground := Ground.gcOnly Departure.lateStores }], guard := none }) (v := ?_) rfl (Or.inl ⟨by rfl, ?_⟩) HHeld.out ?_
    rotate_left
    · intro w hSw; clear hSw; go_simp; try with_reducible rfl
    try simp only [pu, pn, s1, s2, s3]
    refine wT (i := 5) (oi := { dst := some 34, op := Op.fieldAddr 30 (Operand.tmp 2) 1, type := 0, pos := "ref.go:50", after := #[{ on := 8, ground := Ground.gcOnly Departure.lateStores }], guard := none }) (v := ?_) rfl (Or.inl ⟨by rfl, ?_⟩) HHeld.out ?_
    rotate_left
    · intro w hSw; clear hSw; go_simp; try with_reducible rfl
    try simp only [pu, pn, s1, s2, s3]
    refine wT (i := 6) (oi := { dst := some 35, op := Op.load 9 (Operand.tmp 34), type := 9, pos := "ref.go:50", after := #[{ on := 5, ground := Ground.data }, { on := 8, ground := Ground.gcOnly Departure.lateStores }], guard := none }) (v := (.string t : Value)) rfl (Or.inl ⟨by rfl, ?_⟩) HHeld.out ?_
    · intro V hV; have hc0 := (has_two hV).2.1; clear hV; go_simp
    try simp only [pu, pn, s1, s2, s3]
    refine wT (i := 7) (oi := { dst := some 36, op := Op.build 30 #[(0, Operand.tmp 33), (1, Operand.tmp 35)], type := 30, pos := "ref.go:50", after := #[{ on := 4, ground := Ground.data }, { on := 6, ground := Ground.data }, { on := 8, ground := Ground.gcOnly Departure.lateStores }], guard := none }) (v := ?_) rfl (Or.inl ⟨by rfl, ?_⟩) HHeld.out ?_
    rotate_left
    · intro w hSw; clear hSw; go_simp; try with_reducible rfl
    try simp only [pu, pn, s1, s2, s3]
    refine wpAnyH_ready (rs := [8]) (by kernel_rfl) (by simp) ?_
    refine AllReadyH.cons (o := { dst := none, op := Op.store 30 (Operand.tmp 4) (Operand.tmp 32), type := 0, pos := "ref.go:50", after := #[{ on := 3, ground := Ground.data }, { on := 0, ground := Ground.phase }, { on := 1, ground := Ground.phase }, { on := 2, ground := Ground.phase }, { on := 3, ground := Ground.phase }, { on := 4, ground := Ground.textOnly Departure.lateStores }, { on := 5, ground := Ground.textOnly Departure.lateStores }, { on := 6, ground := Ground.textOnly Departure.lateStores }, { on := 7, ground := Ground.textOnly Departure.lateStores }], guard := none }) rfl (fun K hK => ?_) AllReadyH.nil
    go_simp
    generalize hW : World.setCell _ _ _ = W8
    have HCa := Lib.hid (show Chg (fun g => g = w.heap.size + 1) w1 W8 by rw [← hW]; exact chg2 _ _ _ _)
    have Ba := Lib.hid (show W8.heap[w.heap.size + 1]? = some (rgc f a) by rw [← hW]; exact set2w X.out _ _)
    have Y1 := Lib.hid (show W8.heap[w.heap.size + 1 + 1]? = some (rgc emptyS emptyS) from keep_chg HCa.out Y.out (fun e => by omega))
    have Ua := Lib.hid (show W8.heap[w.heap.size]? = some (rgc f t) from keep_chg HCa.out Z.out (fun e => by omega))
    clear hW c0 c1 d0 d1 e0 e1 f0 f1 g0 g1
    obtain ⟨c0, c1, f0, f1⟩ := has_two Ba.out
    obtain ⟨d0, d1, g0, g1⟩ := has_two Y1.out
    obtain ⟨e0, e1, -, -⟩ := has_two Ua.out
    refine hK.out _ _ ?_ (fun hHeld => ?_)
    · exact Ua.out
    clear HHeld; have HHeld := Lib.hid hHeld; clear hHeld
    clear hK K
    try simp only [pu, pn, s1, s2, s3]
    refine wpAnyH_ready (rs := [9]) (by kernel_rfl) (by simp) ?_
    refine AllReadyH.cons (o := { dst := none, op := Op.store 30 (Operand.tmp 5) (Operand.tmp 36), type := 0, pos := "ref.go:50", after := #[{ on := 7, ground := Ground.data }, { on := 8, ground := Ground.chain }, { on := 0, ground := Ground.phase }, { on := 1, ground := Ground.phase }, { on := 2, ground := Ground.phase }, { on := 3, ground := Ground.phase }, { on := 4, ground := Ground.phase }, { on := 5, ground := Ground.phase }, { on := 6, ground := Ground.phase }, { on := 7, ground := Ground.phase }, { on := 8, ground := Ground.phase }], guard := none }) rfl (fun K hK => ?_) AllReadyH.nil
    go_simp
    generalize hW : World.setCell _ _ _ = W9
    have HCb := Lib.hid (show Chg (fun g => g = w.heap.size + 1 + 1) W8 W9 by rw [← hW]; exact chg2 _ _ _ _)
    have Bb := Lib.hid (show W9.heap[w.heap.size + 1 + 1]? = some (rgc a t) by rw [← hW]; exact set2w Y1.out _ _)
    have Bc := Lib.hid (show W9.heap[w.heap.size + 1]? = some (rgc f a) from keep_chg HCb.out Ba.out (fun e => by omega))
    have Ub := Lib.hid (show W9.heap[w.heap.size]? = some (rgc f t) from keep_chg HCb.out Ua.out (fun e => by omega))
    clear hW c0 c1 d0 d1 e0 e1 f0 f1 g0 g1
    refine hK.out _ _ ?_ (fun hHeld => ?_)
    · exact Ub.out
    clear HHeld; have HHeld := Lib.hid hHeld; clear hHeld
    clear hK K
    try simp only [pu, pn, s1, s2, s3]
    refine wT (i := 10) (oi := { dst := some 6, op := Op.assign (Operand.const (Value.bool true)), type := 4, pos := "ref.go:50", after := #[{ on := 9, ground := Ground.chain }, { on := 0, ground := Ground.phase }, { on := 1, ground := Ground.phase }, { on := 2, ground := Ground.phase }, { on := 3, ground := Ground.phase }, { on := 4, ground := Ground.phase }, { on := 5, ground := Ground.phase }, { on := 6, ground := Ground.phase }, { on := 7, ground := Ground.phase }, { on := 8, ground := Ground.phase }, { on := 9, ground := Ground.phase }], guard := none }) (v := ?_) rfl (Or.inl ⟨by rfl, ?_⟩) HHeld.out ?_
    rotate_left
    · intro w hSw; clear hSw; go_simp; try with_reducible rfl
    try simp only [pu, pn, s1, s2, s3]
    refine wpAnyH_done (by kernel_rfl) ?_ _
    clear HHeld
    obtain ⟨k0, k1, -, -⟩ := has_two Bc.out
    obtain ⟨q0, q1, -, -⟩ := has_two Bb.out
    go_wp2
    refine bodyPost_ret (v := .tuple #[.agg #[.string f, .string a], .agg #[.string a, .string t], .bool true]) (by simp [results, Tryz.results10, go_sem, k0, k1, q0, q1]) rfl ⟨rfl, (bel_chg (bel_chg H0.out HCa.out (by omega)) HCb.out (by omega)).drew⟩
  · have g5 : (t.toList == []) = true := by unfold emp at ht; cases q : t.toList <;> simp_all
    have g6 : t.toList.isEmpty = true := ht
    clear h1 h2 h3 hna ht
    go_enter Tryz.func10, Tryz.ntmps10
    go_upto_region 3 with (first
      | (go_at_call 28; ((with_reducible refine (RA.out _).mono ?_); rintro e w1 ⟨rfl, b⟩; replace H0 := Lib.hid (bel_trans H0.out b); replace Z := Lib.hid (keep_bel b Z.out); replace X := Lib.hid (keep_bel b X.out); replace Y := Lib.hid (keep_bel b Y.out); clear b e0 e1; obtain ⟨e0, e1, -, -⟩ := has_two Z.out))
      | fail)
    obtain ⟨c0, c1, f0, f1⟩ := has_two X.out
    obtain ⟨d0, d1, g0, g1⟩ := has_two Y.out
    refine wp_region_held_drew (S := (fun V : World => V.heap[w.heap.size]? = some (rgc f t))) (by kernel_rfl) ?_ (fun hHeld => ?_)
    · exact Z.out
    have HHeld := Lib.hid hHeld; clear hHeld
    refine wT (i := 0) (oi := { dst := some 29, op := Op.fieldAddr 30 (Operand.tmp 2) 0, type := 0, pos := "ref.go:50", after := #[], guard := none }) (v := ?_) rfl (Or.inl ⟨by rfl, ?_⟩) HHeld.out ?_
    rotate_left
    · intro w hSw; clear hSw; go_simp; try with_reducible rfl
    try simp only [pu, pn, s1, s2, s3]
    refine wT (i := 1) (oi := { dst := some 30, op := Op.load 9 (Operand.tmp 29), type := 9, pos := "ref.go:50", after := #[{ on := 0, ground := Ground.data }], guard := none }) (v := (.string f : Value)) rfl (Or.inl ⟨by rfl, ?_⟩) HHeld.out ?_
    · intro V hV; have hc0 := (has_two hV).1; clear hV; go_simp
    try simp only [pu, pn, s1, s2, s3]
    refine wT (i := 2) (oi := { dst := some 31, op := Op.move (Operand.tmp 1), type := 9, pos := "ref.go:50", after := #[], guard := none }) (v := ?_) rfl (Or.inl ⟨by rfl, ?_⟩) HHeld.out ?_
    rotate_left
    · intro w hSw; clear hSw; go_simp; try with_reducible rfl
    try simp only [pu, pn, s1, s2, s3]
    refine wT (i := 3) (oi := { dst := some 32, op := Op.build 30 #[(0, Operand.tmp 30), (1, Operand.tmp 31)], type := 30, pos := "ref.go:50", after := #[{ on := 1, ground := Ground.data }, { on := 2, ground := Ground.data }], guard := none }) (v := ?_) rfl (Or.inl ⟨by rfl, ?_⟩) HHeld.out ?_
    rotate_left
    · intro w hSw; clear hSw; go_simp; try with_reducible rfl
    try simp only [pu, pn, s1, s2, s3]
    refine wT (i := 4) (oi := { dst := some 33, op := Op.move (Operand.tmp 1), type := 9, pos := "ref.go:50", after := #[{ on := 8, ground := Ground.gcOnly Departure.lateStores }], guard := none }) (v := ?_) rfl (Or.inl ⟨by rfl, ?_⟩) HHeld.out ?_
    rotate_left
    · intro w hSw; clear hSw; go_simp; try with_reducible rfl
    try simp only [pu, pn, s1, s2, s3]
    refine wT (i := 5) (oi := { dst := some 34, op := Op.fieldAddr 30 (Operand.tmp 2) 1, type := 0, pos := "ref.go:50", after := #[{ on := 8, ground := Ground.gcOnly Departure.lateStores }], guard := none }) (v := ?_) rfl (Or.inl ⟨by rfl, ?_⟩) HHeld.out ?_
    rotate_left
    · intro w hSw; clear hSw; go_simp; try with_reducible rfl
    try simp only [pu, pn, s1, s2, s3]
    refine wT (i := 6) (oi := { dst := some 35, op := Op.load 9 (Operand.tmp 34), type := 9, pos := "ref.go:50", after := #[{ on := 5, ground := Ground.data }, { on := 8, ground := Ground.gcOnly Departure.lateStores }], guard := none }) (v := (.string t : Value)) rfl (Or.inl ⟨by rfl, ?_⟩) HHeld.out ?_
    · intro V hV; have hc0 := (has_two hV).2.1; clear hV; go_simp
    try simp only [pu, pn, s1, s2, s3]
    refine wT (i := 7) (oi := { dst := some 36, op := Op.build 30 #[(0, Operand.tmp 33), (1, Operand.tmp 35)], type := 30, pos := "ref.go:50", after := #[{ on := 4, ground := Ground.data }, { on := 6, ground := Ground.data }, { on := 8, ground := Ground.gcOnly Departure.lateStores }], guard := none }) (v := ?_) rfl (Or.inl ⟨by rfl, ?_⟩) HHeld.out ?_
    rotate_left
    · intro w hSw; clear hSw; go_simp; try with_reducible rfl
    try simp only [pu, pn, s1, s2, s3]
    refine wpAnyH_ready (rs := [8]) (by kernel_rfl) (by simp) ?_
    refine AllReadyH.cons (o := { dst := none, op := Op.store 30 (Operand.tmp 4) (Operand.tmp 32), type := 0, pos := "ref.go:50", after := #[{ on := 3, ground := Ground.data }, { on := 0, ground := Ground.phase }, { on := 1, ground := Ground.phase }, { on := 2, ground := Ground.phase }, { on := 3, ground := Ground.phase }, { on := 4, ground := Ground.textOnly Departure.lateStores }, { on := 5, ground := Ground.textOnly Departure.lateStores }, { on := 6, ground := Ground.textOnly Departure.lateStores }, { on := 7, ground := Ground.textOnly Departure.lateStores }], guard := none }) rfl (fun K hK => ?_) AllReadyH.nil
    go_simp
    generalize hW : World.setCell _ _ _ = W8
    have HCa := Lib.hid (show Chg (fun g => g = w.heap.size + 1) w1 W8 by rw [← hW]; exact chg2 _ _ _ _)
    have Ba := Lib.hid (show W8.heap[w.heap.size + 1]? = some (rgc f a) by rw [← hW]; exact set2w X.out _ _)
    have Y1 := Lib.hid (show W8.heap[w.heap.size + 1 + 1]? = some (rgc emptyS emptyS) from keep_chg HCa.out Y.out (fun e => by omega))
    have Ua := Lib.hid (show W8.heap[w.heap.size]? = some (rgc f t) from keep_chg HCa.out Z.out (fun e => by omega))
    clear hW c0 c1 d0 d1 e0 e1 f0 f1 g0 g1
    obtain ⟨c0, c1, f0, f1⟩ := has_two Ba.out
    obtain ⟨d0, d1, g0, g1⟩ := has_two Y1.out
    obtain ⟨e0, e1, -, -⟩ := has_two Ua.out
    refine hK.out _ _ ?_ (fun hHeld => ?_)
    · exact Ua.out
    clear HHeld; have HHeld := Lib.hid hHeld; clear hHeld
    clear hK K
    try simp only [pu, pn, s1, s2, s3]
    refine wpAnyH_ready (rs := [9]) (by kernel_rfl) (by simp) ?_
    refine AllReadyH.cons (o := { dst := none, op := Op.store 30 (Operand.tmp 5) (Operand.tmp 36), type := 0, pos := "ref.go:50", after := #[{ on := 7, ground := Ground.data }, { on := 8, ground := Ground.chain }, { on := 0, ground := Ground.phase }, { on := 1, ground := Ground.phase }, { on := 2, ground := Ground.phase }, { on := 3, ground := Ground.phase }, { on := 4, ground := Ground.phase }, { on := 5, ground := Ground.phase }, { on := 6, ground := Ground.phase }, { on := 7, ground := Ground.phase }, { on := 8, ground := Ground.phase }], guard := none }) rfl (fun K hK => ?_) AllReadyH.nil
    go_simp
    generalize hW : World.setCell _ _ _ = W9
    have HCb := Lib.hid (show Chg (fun g => g = w.heap.size + 1 + 1) W8 W9 by rw [← hW]; exact chg2 _ _ _ _)
    have Bb := Lib.hid (show W9.heap[w.heap.size + 1 + 1]? = some (rgc a t) by rw [← hW]; exact set2w Y1.out _ _)
    have Bc := Lib.hid (show W9.heap[w.heap.size + 1]? = some (rgc f a) from keep_chg HCb.out Ba.out (fun e => by omega))
    have Ub := Lib.hid (show W9.heap[w.heap.size]? = some (rgc f t) from keep_chg HCb.out Ua.out (fun e => by omega))
    clear hW c0 c1 d0 d1 e0 e1 f0 f1 g0 g1
    refine hK.out _ _ ?_ (fun hHeld => ?_)
    · exact Ub.out
    clear HHeld; have HHeld := Lib.hid hHeld; clear hHeld
    clear hK K
    try simp only [pu, pn, s1, s2, s3]
    refine wT (i := 10) (oi := { dst := some 6, op := Op.assign (Operand.const (Value.bool true)), type := 4, pos := "ref.go:50", after := #[{ on := 9, ground := Ground.chain }, { on := 0, ground := Ground.phase }, { on := 1, ground := Ground.phase }, { on := 2, ground := Ground.phase }, { on := 3, ground := Ground.phase }, { on := 4, ground := Ground.phase }, { on := 5, ground := Ground.phase }, { on := 6, ground := Ground.phase }, { on := 7, ground := Ground.phase }, { on := 8, ground := Ground.phase }, { on := 9, ground := Ground.phase }], guard := none }) (v := ?_) rfl (Or.inl ⟨by rfl, ?_⟩) HHeld.out ?_
    rotate_left
    · intro w hSw; clear hSw; go_simp; try with_reducible rfl
    try simp only [pu, pn, s1, s2, s3]
    refine wpAnyH_done (by kernel_rfl) ?_ _
    clear HHeld
    obtain ⟨k0, k1, -, -⟩ := has_two Bc.out
    obtain ⟨q0, q1, -, -⟩ := has_two Bb.out
    go_wp2
    refine bodyPost_ret (v := .tuple #[.agg #[.string f, .string a], .agg #[.string a, .string t], .bool true]) (by simp [results, Tryz.results10, go_sem, k0, k1, q0, q1]) rfl ⟨rfl, (bel_chg (bel_chg H0.out HCa.out (by omega)) HCb.out (by omega)).drew⟩
end Go.Proofs.YtilnpeekajnlhaaGreat
