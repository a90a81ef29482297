/- The rows of operations, and the picks. -/
import Derived.Test.YtelpkajlejbbgaaGreatDoorTd01
import Derived.Test.YtelpkajlejbbgaaGreatDoorTd17
set_option linter.unusedVariables false
set_option linter.unusedSimpArgs false
namespace Go.Proofs.YtelpkajlejbbgaaGreatDoor
open Go.RowKit Go.Maps
def rdsz (w : World) (g : Nat) : Nat := match w.cell? ⟨g, 0, none⟩ with
  | some (.string t) => t.size
  | _ => 0
theorem RB.sz {w : World} {g : Nat} {t : ByteArray} {ln : Int} (h : RB w g t ln) : rdsz w g = t.size := by unfold rdsz; rw [h.c0]
def PR (base : Nat) (r : List (List OpV) × List Int) (w' : World) (v : Value) : Prop := ∃ A c B d hs, v = .tuple #[.slice A r.1.length c, .slice B r.2.length d] ∧ EH.RdD w' (fun x => x < base) A hs ∧ RowsR w' (fun x => x < base) hs r.1 ∧ EI.RdD w' (fun x => x < base) B r.2
/-- What is known ahead of a round. -/
structure RR (w : World) (base g : Nat) (A : Option Addr) (m c : Nat) (acc : List (List OpV)) : Prop where
  h : ∃ hs, hs.length = m ∧ acc.length = m ∧ EH.Row w base A hs c ∧ (∀ b, RE.fp A c = some b → b < w.heap.size) ∧ ((acc = [] ∧ hs = []) ∨ ∃ pre os hp A1 c1 xs, acc = pre ++ [os] ∧ hs = hp ++ [⟨A1, xs.length, c1⟩] ∧ Good w base (RE.fp A c) pre os hp A1 c1 xs)
theorem RR.chg {w w' : World} {base g : Nat} {A : Option Addr} {m c : Nat} {acc : List (List OpV)} (h : RR w base g A m c acc) (hc : Chg (fun x => x = g) w w') (hg : g < base) : RR w' base g A m c acc := by
  obtain ⟨hs, h1, h2, h3, h4, h5⟩ := h.h
  refine ⟨hs, h1, h2, h3.chgG hc hg, fun b hb => Nat.lt_of_lt_of_le (h4 b hb) hc.size, ?_⟩
  rcases h5 with h5 | ⟨pre, os, hp, A1, c1, xs, e1, e2, h6⟩
  · exact .inl h5
  · exact .inr ⟨pre, os, hp, A1, c1, xs, e1, e2, h6.chg hc hg⟩
theorem RR.all {w : World} {base g : Nat} {A : Option Addr} {m c : Nat} {acc : List (List OpV)} (h : RR w base g A m c acc) : ∃ hs, hs.length = m ∧ EH.Row w base A hs c ∧ RowsR w (DD base (RE.fp A c) none) hs acc := by
  obtain ⟨hs, h1, h2, h3, h4, h5⟩ := h.h
  refine ⟨hs, h1, h3, ?_⟩
  rcases h5 with ⟨e1, e2⟩ | ⟨pre, os, hp, A1, c1, xs, e1, e2, h6⟩
  · rw [e1, e2]; exact RowsR.nil
  · rw [e1, e2]; exact h6.all
theorem RR.len {w : World} {base g : Nat} {A : Option Addr} {m c : Nat} {acc : List (List OpV)} (h : RR w base g A m c acc) : acc.length = m := by
  obtain ⟨hs, h1, h2, _⟩ := h.h
  exact h2
theorem row_fp_lt {α : Type} {E : RE α} {w : World} {base : Nat} {A : Option Addr} {l : List α} {c : Nat} (h : E.Row w base A l c) : ∀ b, RE.fp A c = some b → b < w.heap.size := fun b hb => (h.fp_lt hb).2
/-- One session more. -/
theorem RR.sess {w w' : World} {base g : Nat} {A A2 : Option Addr} {m c c2 : Nat} {acc : List (List OpV)} {hs : List Hd} (hl : hs.length = m) (hl2 : acc.length = m) (hall : RowsR w (DD base (RE.fp A c) none) hs acc) (hr : EH.Row w' base A2 (hs ++ [⟨none, 0, 0⟩]) c2) (hg : w.grownBy w' (RE.fp A c)) (hf : RE.fp A2 c2 = none ∨ RE.fp A2 c2 = RE.fp A c ∨ RE.fp A2 c2 = some w.heap.size) : RR w' base g A2 (m + 1) c2 (acc ++ [[]]) :=
  ⟨hs ++ [⟨none, 0, 0⟩], by simp [hl], by simp [hl2], hr, row_fp_lt hr, .inr ⟨acc, [], hs, none, 0, [], rfl, rfl, rows_more hall hg hf⟩⟩
set_option maxHeartbeats 4000000 in
set_option maxRecDepth 100000 in
theorem rows_any {B g : Nat} {t : ByteArray} {ln : Int} {w : World} (hr : RB w g t ln) (hb : GB B w) (hg : B ≤ g) (ht : t.size ≤ 890000) (hl : 0 ≤ ln ∧ ln + t.size ≤ 4000000) :
    Calls Tryz.prog 40 #[.pointer (some ⟨g, 0, none⟩)] w (RX g w (rowsG (t.size + 1) t ln []) (PR w.heap.size)) := by
  obtain ⟨r, hrr⟩ : ∃ r, rowsG (t.size + 1) t ln [] = r := ⟨_, rfl⟩
  rw [hrr]
  have HRR := Lib.hid hrr
  have HGL := Lib.hid hr.lt
  have HG := Lib.hid hb
  have HR := Lib.hid hr
  have HL := Lib.hid (And.intro ht hl)
  clear hr hb hrr ht hl
  go_enter Tryz.func40, Tryz.ntmps40
  go_upto_region 2 with fail
  go_loopw [4] (fun rv wr => ∃ (f : Nat) (u : ByteArray) (l : Int) (acc : List (List OpV)) (A : Option Addr) (m c : Nat), rv = .slice A m c ∧ Hid (rowsG f u l acc = r) ∧ Hid (RR wr w.heap.size g A m c acc) ∧ Hid (RB wr g u l) ∧ Hid (u.size < f ∧ u.size ≤ 890000 ∧ 0 ≤ l ∧ l + u.size ≤ 4000000 ∧ m + u.size ≤ 1000000) ∧ Hid (∀ rw ∈ acc, rw.length + u.size ≤ 1000000) ∧ Chg (fun x => x = g) w wr) (fun _ wr => rdsz wr g)
  case atStart => exact ⟨t.size + 1, t, ln, [], none, 0, 0, rfl, HRR, Lib.hid ⟨[], rfl, rfl, .inl ⟨rfl, rfl⟩, (fun b hb => by cases hb), .inl ⟨rfl, rfl⟩⟩, HR, Lib.hid (by have := HL.out; omega), Lib.hid (fun rw h => by cases h), Chg.refl _ _⟩
  case round =>
    obtain ⟨f, u, l, acc, A, m, c, rfl, HF, HRR2, HRB, HU, HZ, hcw⟩ := hrel
    have HC := Lib.hid hcw
    clear hcw
    have GW1 := Lib.hid (HG.out.chg HC.out hg)
    have hU := HU.out
    obtain ⟨f, rfl⟩ : ∃ f', f = f' + 1 := ⟨f - 1, by omega⟩
    have hF := HF.out
    unfold rowsG at hF
    cases hnx : nextF u with
    | none =>
      rw [hnx] at hF
      simp only at hF
      have NX := Lib.hid (next_bad HRB.out GW1.out hg (by omega) (by omega) hnx)
      have HE : Hid (r = .error (l + 1, 5)) := Lib.hid hF.symm
      clear hnx hF hU
      go_wp2_with (first
        | (go_at_call 41; ((with_reducible refine NX.out.mono ?_); rintro e w3 ⟨rfl, c3⟩; have C3 := Lib.hid (HC.out.then c3); clear c3))
        | fail)
      refine ⟨rfl, ?_⟩
      rw [HE.out]
      exact ⟨rfl, C3.out⟩
    | some wu =>
      obtain ⟨ws, u2⟩ := wu
      rw [hnx] at hF
      simp only at hF
      have NX := Lib.hid (next_ok HRB.out GW1.out hg (by omega) (by omega) hnx)
      have hNF := next_facts hnx
      have HNF := Lib.hid (show 0 < ws.length ∧ ws.length ≤ u.size + 1 ∧ u2.size < u.size ∧ ∀ x ∈ ws, x.size ≤ 1000000 from ⟨hNF.1, next_len hnx, hNF.2.1, fun x hx => by have := hNF.2.2.1 x hx; omega⟩)
      obtain ⟨y, hy⟩ : ∃ y, wdA ws 0 = y := ⟨_, rfl⟩
      have HY0 := Lib.hid hy
      rw [hy] at hF
      have NEXT := Lib.hid (fun (w3 : World) (c3 : Chg (fun x => x = g) wr w3) => HRR2.out.chg c3 HGL.out)
      clear hnx hNF hy
      by_cases hyp : y = wPicks
      · rw [if_pos hyp] at hF
        have d0 : (y.toList == [112, 105, 99, 107, 115]) = true := lit_eq (by rw [hyp]; rfl)
        cases hnm : numsB (ws.drop 1) with
        | none =>
          rw [hnm] at hF
          simp only at hF
          have HE : Hid (r = .error (l + 1, 3)) := Lib.hid hF.symm
          have HNM := Lib.hid hnm
          have HN1 := Lib.hid (show ¬ ws.length = 1 from fun e => by
            have e2 : ws.drop 1 = [] := List.drop_eq_nil_of_le (by omega)
            rw [e2] at hnm; cases hnm)
          clear hF hnm hyp
          go_wp2_with (first
            | (go_at_call 41; ((with_reducible refine NX.out.mono ?_); rintro e w3 ⟨b3, n3, rfl, h31, h32, h33, h34, c3⟩; obtain ⟨n4, rfl⟩ : ∃ n4, n3 = n4 + 1 := ⟨n3 - 1, by have := HNF.out.1; omega⟩; have C3 := Lib.hid (HC.out.then c3); have G3 := Lib.hid (GW1.out.chg c3 hg); have R3 := Lib.hid h34; have W3 := Lib.hid h33; have W31 := Lib.hid (show ES.Rd w3 (some ⟨b3, 1, none⟩) (ws.drop 1) from RE.Rd.drop h33 1); have N3 := Lib.hid h32; have e6q := h32; have c0 := wd_cell h33 (i := 0) HNF.out.1; rw [HY0.out] at c0; have e6 : ¬ n4 = 0 := (by have := HN1.out; omega); clear e6q; have e4 : (0 : Int) < ((n4 + 1 : Nat) : Int) := (by omega); have e5 : (1 : Int) ≤ ((n4 + 1 : Nat) : Int) := (by omega); clear c3 h31 h32 h33 h34))
            | (go_at_call 63; ((with_reducible refine (rnumbers_any (some ⟨b3, 1, none⟩) n4 n4 (ws.drop 1) R3.out G3.out (by rw [List.length_drop, N3.out]; omega) (by have := HNF.out.2.1; have := HU.out; have := N3.out; omega) W31.out (fun x hx => Nat.le_trans (HNF.out.2.2.2 x (List.mem_of_mem_drop hx)) (by omega))).mono ?_); rintro e w4 h4; unfold RL at h4; rw [HNM.out] at h4; obtain ⟨he, b4⟩ := h4; simp only at he; subst he; have C4 := Lib.hid (C3.out.later b4); clear b4))
            | fail)
          refine ⟨rfl, ?_⟩
          rw [HE.out]
          exact ⟨rfl, C4.out⟩
        | some pk =>
          rw [hnm] at hF
          simp only at hF
          by_cases h1 : ws.length = 1
          · have HE : Hid (r = .ok ((acc, pk), u2, l + 1)) := Lib.hid hF.symm
            have H1 := Lib.hid h1
            obtain rfl : pk = [] := by
              have e2 : ws.drop 1 = [] := List.drop_eq_nil_of_le (by omega)
              rw [e2] at hnm; cases hnm; rfl
            clear hF hnm hyp h1
            go_wp2_with (first
              | (go_at_call 41; ((with_reducible refine NX.out.mono ?_); rintro e w3 ⟨b3, n3, rfl, h31, h32, h33, h34, c3⟩; obtain rfl : n3 = 1 := h32.symm.trans H1.out; have C3 := Lib.hid (HC.out.then c3); have RR3 := Lib.hid (NEXT.out _ c3); have G3 := Lib.hid (GW1.out.chg c3 hg); have R3 := Lib.hid h34; have W3 := Lib.hid h33; have N3 := Lib.hid h32; have c0 := wd_cell h33 (i := 0) HNF.out.1; rw [HY0.out] at c0; clear c3 h31 h32 h33 h34))
              | (go_at_call 63; ((with_reducible refine (rnumbers_any (some ⟨b3, 0, none⟩) 0 0 [] R3.out G3.out rfl (by omega) RE.Rd.nil (fun x hx => absurd hx (by simp))).mono ?_); rintro e w4 h4; unfold RL at h4; rw [show numsB [] = some [] from rfl] at h4; obtain ⟨he, b4⟩ := h4; simp only at he; obtain ⟨A4, c4, rfl, hrow4⟩ := he; have RR4 := Lib.hid (RR3.out.chg (Chg.of_below b4) HGL.out); have RB4 := Lib.hid (R3.out.later b4); have W4 := Lib.hid hrow4; have S4 := Lib.hid C3.out.size; have C4 := Lib.hid (C3.out.later b4); clear b4 hrow4))
              | fail)
            refine bodyPost_ret (v := .tuple #[.slice A m c, .slice A4 ([] : List Int).length c4]) (by simp [results, Tryz.results40, go_sem]) rfl ?_
            rw [HE.out]
            obtain ⟨hs, h1, h2, h3⟩ := RR4.out.all
            refine ⟨_, rfl, ⟨A, c, A4, c4, hs, ?_, ?_, ?_, ?_⟩, RB4.out, C4.out⟩
            · rw [← RR4.out.len]
            · exact h2.rdD (fun x hx hb _ e => by omega)
            · exact h3.dom (fun x _ e => .inl e)
            · exact W4.out.rdD (fun x hx hb _ e => by have := S4.out; omega)
          · have HE : Hid (r = .ok ((acc, pk), u2, l + 1)) := Lib.hid hF.symm
            have HNM := Lib.hid hnm
            have HN1 := Lib.hid h1
            clear hF hnm hyp h1
            go_wp2_with (first
              | (go_at_call 41; ((with_reducible refine NX.out.mono ?_); rintro e w3 ⟨b3, n3, rfl, h31, h32, h33, h34, c3⟩; obtain ⟨n4, rfl⟩ : ∃ n4, n3 = n4 + 1 := ⟨n3 - 1, by have := HNF.out.1; omega⟩; have C3 := Lib.hid (HC.out.then c3); have RR3 := Lib.hid (NEXT.out _ c3); have G3 := Lib.hid (GW1.out.chg c3 hg); have R3 := Lib.hid h34; have W3 := Lib.hid h33; have W31 := Lib.hid (show ES.Rd w3 (some ⟨b3, 1, none⟩) (ws.drop 1) from RE.Rd.drop h33 1); have N3 := Lib.hid h32; have e6q := h32; have c0 := wd_cell h33 (i := 0) HNF.out.1; rw [HY0.out] at c0; have e6 : ¬ n4 = 0 := (by have := HN1.out; omega); clear e6q; have e4 : (0 : Int) < ((n4 + 1 : Nat) : Int) := (by omega); have e5 : (1 : Int) ≤ ((n4 + 1 : Nat) : Int) := (by omega); clear c3 h31 h32 h33 h34))
              | (go_at_call 63; ((with_reducible refine (rnumbers_any (some ⟨b3, 1, none⟩) n4 n4 (ws.drop 1) R3.out G3.out (by rw [List.length_drop, N3.out]; omega) (by have := HNF.out.2.1; have := HU.out; have := N3.out; omega) W31.out (fun x hx => Nat.le_trans (HNF.out.2.2.2 x (List.mem_of_mem_drop hx)) (by omega))).mono ?_); rintro e w4 h4; unfold RL at h4; rw [HNM.out] at h4; obtain ⟨he, b4⟩ := h4; simp only at he; obtain ⟨A4, c4, rfl, hrow4⟩ := he; have RR4 := Lib.hid (RR3.out.chg (Chg.of_below b4) HGL.out); have RB4 := Lib.hid (R3.out.later b4); have W4 := Lib.hid hrow4; have S4 := Lib.hid C3.out.size; have C4 := Lib.hid (C3.out.later b4); clear b4 hrow4))
              | fail)
            refine bodyPost_ret (v := .tuple #[.slice A m c, .slice A4 pk.length c4]) (by simp [results, Tryz.results40, go_sem]) rfl ?_
            rw [HE.out]
            obtain ⟨hs, h1, h2, h3⟩ := RR4.out.all
            refine ⟨_, rfl, ⟨A, c, A4, c4, hs, ?_, ?_, ?_, ?_⟩, RB4.out, C4.out⟩
            · rw [← RR4.out.len]
            · exact h2.rdD (fun x hx hb _ e => by omega)
            · exact h3.dom (fun x _ e => .inl e)
            · exact W4.out.rdD (fun x hx hb _ e => by have := S4.out; omega)
      · rw [if_neg hyp] at hF
        have d0 : (y.toList == [112, 105, 99, 107, 115]) = false := lit_ne (fun e => hyp (ba_inj e))
        by_cases hys : y = wSess ∧ ws.length = 1
        · rw [if_pos hys] at hF
          have d1 : (y.toList == [115, 101, 115, 115, 105, 111, 110]) = true := lit_eq (by rw [hys.1]; rfl)
          have H1 := Lib.hid hys.2
          have HF2 := Lib.hid hF
          have HM := Lib.hid (show m ≤ 1000000 by omega)
          clear hF hyp hys hU
          go_wp2_with (first
            | (go_at_call 41; ((with_reducible refine NX.out.mono ?_); rintro e w3 ⟨b3, n3, rfl, h31, h32, h33, h34, c3⟩; obtain rfl : n3 = 1 := h32.symm.trans H1.out; have C3 := Lib.hid (HC.out.then c3); have RR3 := Lib.hid (NEXT.out _ c3); have R3 := Lib.hid h34; have c0 := wd_cell h33 (i := 0) HNF.out.1; rw [HY0.out] at c0; obtain ⟨hs, q1, q2, q3⟩ := RR3.out.all; have Q1 := Lib.hid q1; have RW := Lib.hid (q2.later (alb w3 (.cells #[.slice none 0 0] 43))); have Q3 := Lib.hid (q3.chg (Chg.of_below (D := fun _ => False) (alb w3 (.cells #[.slice none 0 0] 43))) (fun x e => e.elim)); have RV := Lib.hid (RE.Rd.lit (E := EH) w3 43 [⟨none, 0, 0⟩] #[.slice none 0 0] rfl); have C4 := Lib.hid (C3.out.later (alb w3 (.cells #[.slice none 0 0] 43))); have R4 := Lib.hid (R3.out.later (alb w3 (.cells #[.slice none 0 0] 43))); clear q1 q2 q3 c3 h31 h32 h33 h34))
            | (at_builtin; refine RE.wpList_put EH _ rfl (.tmp 48) (.tmp 49) rfl (base := w.heap.size) A m c _ _ 1 1 [⟨none, 0, 0⟩] rfl rfl RW.out Q1.out HM.out C4.out.size rfl (by omega) RV.out ?_; intro A5 c5 w5 r1 r2 r3; have R5 := Lib.hid r1; have Q5 := Lib.hid r2; have F5 := Lib.hid r3; clear r1 r2 r3)
            | fail)
          have B5 := Lib.hid (RE.Row.below (lo := w.heap.size) Q5.out RW.out (Nat.le_refl _) C4.out.size)
          have R6 := Lib.hid (show RB w5 g u2 (l + 1) from (B5.out.block g HGL.out).trans R4.out)
          exact ⟨⟨f, u2, l + 1, acc ++ [[]], A5, m + 1, c5, rfl, HF2, Lib.hid (RR.sess Q1.out HRR2.out.len Q3.out R5.out Q5.out F5.out), R6, Lib.hid (by have := HNF.out; have := HU.out; omega), Lib.hid (fun rw h => by
            have h1 := HNF.out; have h2 := HU.out
            rcases List.mem_append.1 h with h | h
            · have := HZ.out rw h; omega
            · simp at h; subst h; simp; omega), C4.out.thenB B5.out⟩, by rw [R6.out.sz, HRB.out.sz]; exact HNF.out.2.2.1⟩
        · rw [if_neg hys] at hF
          by_cases hyw : y = wSess
          · have d1 : (y.toList == [115, 101, 115, 115, 105, 111, 110]) = true := lit_eq (by rw [hyw]; rfl)
            have H1 := Lib.hid (show ¬ ws.length = 1 from fun e => hys ⟨hyw, e⟩)
            cases m with
            | zero =>
              have hacc : acc = [] := List.eq_nil_of_length_eq_zero HRR2.out.len
              rw [if_pos hacc] at hF
              have HE : Hid (r = .error (l + 1, 3)) := Lib.hid hF.symm
              clear hF hyp hys hyw hacc hU
              go_wp2_with (first
                | (go_at_call 41; ((with_reducible refine NX.out.mono ?_); rintro e w3 ⟨b3, n3, rfl, h31, h32, h33, h34, c3⟩; have C3 := Lib.hid (HC.out.then c3); have R3 := Lib.hid h34; have c0 := wd_cell h33 (i := 0) HNF.out.1; rw [HY0.out] at c0; have e3 : ((n3 : Int) == 1) = false := (by have := H1.out; rw [h32] at this; have h : ¬ (n3 : Int) = 1 := (by omega); simpa using h); have e4 : (0 : Int) < (n3 : Int) := (by have := HNF.out.1; omega); clear c3 h31 h32 h33 h34))
                | (go_at_call 42; ((with_reducible refine (check_bad g 3 _ R3.out).mono ?_); rintro e w0 ⟨rfl, rfl⟩))
                | fail)
              refine ⟨rfl, ?_⟩
              rw [HE.out]
              exact ⟨rfl, C3.out⟩
            | succ p =>
              have hacc : ¬ acc = [] := fun e => by have := HRR2.out.len; rw [e] at this; cases this
              rw [if_neg hacc] at hF
              obtain ⟨m2, hm2⟩ : ∃ m2, m2 = p + 1 := ⟨_, rfl⟩
              rw [← hm2] at HRR2 NEXT HU hU ⊢
              have HM2 := Lib.hid hm2
              have wl : IntKind.i64.wrap ((m2 : Int) - 1) = (p : Int) := by rw [IntWalk.i64_in _ (by omega)]; omega
              have k0 : (0 : Int) ≤ (p : Int) := by omega
              have kp : (p : Int) < (m2 : Int) := by omega
              obtain ⟨q, hq⟩ : ∃ q, opF ws u2 (l + 1) = q := ⟨_, rfl⟩
              rw [hq] at hF
              have HQ := Lib.hid hq
              clear hyp hys hyw hacc hU hm2 hq
              go_upto_region 5 with (first
                | (go_at_call 41; ((with_reducible refine NX.out.mono ?_); rintro e w3 ⟨b3, n3, rfl, h31, h32, h33, h34, c3⟩; have C3 := Lib.hid (HC.out.then c3); have R3 := Lib.hid h34; have c0 := wd_cell h33 (i := 0) HNF.out.1; rw [HY0.out] at c0; have e3 : ((n3 : Int) == 1) = false := (by have := H1.out; rw [h32] at this; have h : ¬ (n3 : Int) = 1 := (by omega); simpa using h); have e4 : (0 : Int) < (n3 : Int) := (by have := HNF.out.1; omega); have RR3 := Lib.hid (NEXT.out _ c3); have G3 := Lib.hid (GW1.out.chg c3 hg); have W3 := Lib.hid h33; have N3 := Lib.hid h32; clear c3 h31 h32 h33 h34))
                | (go_at_call 42; ((with_reducible refine (check_ok g 3 _).mono ?_); rintro e w0 ⟨rfl, rfl⟩))
                | fail)
              have OP := Lib.hid (rop_any n3 (R3.out.later (Below.refl _ _).drew) (G3.out.later (Below.refl _ _).drew) hg (by have := HNF.out; have := HU.out; omega) (by have := HNF.out; have := HU.out; omega) N3.out (by have := HNF.out.1; have := N3.out; omega) (by have := HNF.out.2.1; have := HU.out; have := N3.out; omega) (W3.out.later (Below.refl _ _).drew) (wd_size HNF.out.2.2.2))
              rw [HQ.out] at OP
              obtain ⟨hs, hl1, hl2, hrow, hfl, hgood⟩ := RR3.out.h
              rcases hgood with ⟨e1, e2⟩ | ⟨pre, os, hp, A1, c1, xs, e1, e2, hgood⟩
              · exfalso; rw [e2] at hl1; have := HM2.out; simp at hl1; omega
              have hpl : hp.length = p := by rw [e2] at hl1; have := HM2.out; simp at hl1; omega
              obtain ⟨bH, rfl, hb1, hb2, hb3⟩ := hrow.blk (by rw [hl1]; have := HM2.out; omega)
              have HGOOD := Lib.hid hgood
              have HROW := Lib.hid hrow
              have HHS := Lib.hid (And.intro e1 (And.intro e2 (And.intro hpl hl1)))
              have HFP := Lib.hid (And.intro hb1 (And.intro hb2 hb3))
              have hcell : w3.cell? ⟨bH, p, none⟩ = some (.slice A1 xs.length c1) := by
                have hx : hs[p]? = some ⟨A1, xs.length, c1⟩ := by rw [e2, ← hpl]; simp
                have q := (hrow.rd.at hx).2 0 (.slice A1 xs.length c1) rfl
                simpa [EH] using q
              have HCELL := Lib.hid hcell
              clear hcell hgood hrow hl1 hl2 hfl e1 e2 hpl hb1 hb2 hb3 R3
              cases q with
              | error er =>
                obtain ⟨l9, e9⟩ := er
                simp only at hF
                have HE : Hid (r = .error (l9, e9)) := Lib.hid hF.symm
                clear hF
                refine wp_region_held_drew (S := (fun _ : World => True)) (by kernel_rfl) ?_ (fun hHeld => ?_)
                · trivial
                have HHeld := Lib.hid hHeld; clear hHeld
                refine wT (i := 0) (oi := { dst := some 16, op := Op.move (Operand.tmp 4), type := 24, pos := "parse.go:100", after := #[], guard := none }) (v := ?_) rfl (Or.inl ⟨by rfl, ?_⟩) HHeld.out ?_
                rotate_left
                · intro w hSw; clear hSw; go_simp; try with_reducible rfl
                try simp only [pu, pn, s1, s2, s3]
                refine wT (i := 1) (oi := { dst := some 17, op := Op.move (Operand.tmp 6), type := 3, pos := "parse.go:100", after := #[], guard := none }) (v := ?_) rfl (Or.inl ⟨by rfl, ?_⟩) HHeld.out ?_
                rotate_left
                · intro w hSw; clear hSw; go_simp; try with_reducible rfl
                try simp only [pu, pn, s1, s2, s3]
                refine wT (i := 2) (oi := { dst := some 18, op := Op.move (Operand.tmp 4), type := 24, pos := "parse.go:100", after := #[], guard := none }) (v := ?_) rfl (Or.inl ⟨by rfl, ?_⟩) HHeld.out ?_
                rotate_left
                · intro w hSw; clear hSw; go_simp; try with_reducible rfl
                try simp only [pu, pn, s1, s2, s3]
                refine wT (i := 3) (oi := { dst := some 19, op := Op.move (Operand.tmp 6), type := 3, pos := "parse.go:100", after := #[], guard := none }) (v := ?_) rfl (Or.inl ⟨by rfl, ?_⟩) HHeld.out ?_
                rotate_left
                · intro w hSw; clear hSw; go_simp; try with_reducible rfl
                try simp only [pu, pn, s1, s2, s3]
                refine wT (i := 4) (oi := { dst := some 20, op := Op.indexAddr 24 (Operand.tmp 18) (Operand.tmp 19), type := 0, pos := "parse.go:100", after := #[{ on := 2, ground := Ground.data }, { on := 3, ground := Ground.data }], guard := none }) (v := ?_) rfl (Or.inl ⟨by rfl, ?_⟩) HHeld.out ?_
                rotate_left
                · intro w hSw; clear hSw; go_simp; try with_reducible rfl
                try simp only [pu, pn, s1, s2, s3]
                refine wT (i := 6) (oi := { dst := some 22, op := Op.move (Operand.tmp 0), type := 77, pos := "parse.go:100", after := #[], guard := none }) (v := ?_) rfl (Or.inl ⟨by rfl, ?_⟩) HHeld.out ?_
                rotate_left
                · intro w hSw; clear hSw; go_simp; try with_reducible rfl
                try simp only [pu, pn, s1, s2, s3]
                refine wT (i := 7) (oi := { dst := some 23, op := Op.move (Operand.tmp 5), type := 83, pos := "parse.go:100", after := #[], guard := none }) (v := ?_) rfl (Or.inl ⟨by rfl, ?_⟩) HHeld.out ?_
                rotate_left
                · intro w hSw; clear hSw; go_simp; try with_reducible rfl
                try simp only [pu, pn, s1, s2, s3]
                refine wpAnyH_ready (rs := [5, 8]) (by kernel_rfl) (by simp) ?_
                refine AllReadyH.cons (o := { dst := some 21, op := Op.load 43 (Operand.tmp 20), type := 43, pos := "parse.go:100", after := #[{ on := 4, ground := Ground.data }], guard := none }) rfl (fun K hK => ?_) (AllReadyH.cons (o := { dst := some 24, op := Op.call { callee := Callee.value (Operand.func 64), args := #[Operand.tmp 22, Operand.tmp 23], argTypes := #[77, 83] }, type := 47, pos := "parse.go:100", after := #[{ on := 6, ground := Ground.data }, { on := 7, ground := Ground.data }], guard := none }) rfl (fun K hK => ?_) AllReadyH.nil)
                · have hcc := (show w3.drew.cell? ⟨bH, p, none⟩ = _ from HCELL.out)
                  go_simp
                  clear hcc
                  refine hK.out _ _ ?_ (fun hHeld => ?_)
                  · trivial
                  clear HHeld; have HHeld := Lib.hid hHeld; clear hHeld
                  clear hK K
                  try simp only [pu, pn, s1, s2, s3]
                  refine wpAnyH_ready (rs := [8]) (by kernel_rfl) (by simp) ?_
                  refine AllReadyH.cons (o := { dst := some 24, op := Op.call { callee := Callee.value (Operand.func 64), args := #[Operand.tmp 22, Operand.tmp 23], argTypes := #[77, 83] }, type := 47, pos := "parse.go:100", after := #[{ on := 6, ground := Ground.data }, { on := 7, ground := Ground.data }], guard := none }) rfl (fun K hK => ?_) AllReadyH.nil
                  go_simp
                  go_at_call 64; ((refine OP.out.mono ?_); rintro e v ⟨rfl, cc⟩)
                  refine ⟨rfl, ?_⟩
                  rw [HE.out]
                  exact ⟨rfl, C3.out.drew.then cc⟩
                · go_simp
                  go_at_call 64; ((refine OP.out.mono ?_); rintro e v ⟨rfl, cc⟩)
                  refine ⟨rfl, ?_⟩
                  rw [HE.out]
                  exact ⟨rfl, C3.out.drew.then cc⟩
              | ok q2 =>
                obtain ⟨ov, u9, l9⟩ := q2
                simp only at hF
                have HF2 := Lib.hid hF
                have HLE := Lib.hid (op_le HQ.out)
                clear hF
                refine wp_region_held_drew (S := (fun _ : World => True)) (by kernel_rfl) ?_ (fun hHeld => ?_)
                · trivial
                have HHeld := Lib.hid hHeld; clear hHeld
                refine wT (i := 0) (oi := { dst := some 16, op := Op.move (Operand.tmp 4), type := 24, pos := "parse.go:100", after := #[], guard := none }) (v := ?_) rfl (Or.inl ⟨by rfl, ?_⟩) HHeld.out ?_
                rotate_left
                · intro w hSw; clear hSw; go_simp; try with_reducible rfl
                try simp only [pu, pn, s1, s2, s3]
                refine wT (i := 1) (oi := { dst := some 17, op := Op.move (Operand.tmp 6), type := 3, pos := "parse.go:100", after := #[], guard := none }) (v := ?_) rfl (Or.inl ⟨by rfl, ?_⟩) HHeld.out ?_
                rotate_left
                · intro w hSw; clear hSw; go_simp; try with_reducible rfl
                try simp only [pu, pn, s1, s2, s3]
                refine wT (i := 2) (oi := { dst := some 18, op := Op.move (Operand.tmp 4), type := 24, pos := "parse.go:100", after := #[], guard := none }) (v := ?_) rfl (Or.inl ⟨by rfl, ?_⟩) HHeld.out ?_
                rotate_left
                · intro w hSw; clear hSw; go_simp; try with_reducible rfl
                try simp only [pu, pn, s1, s2, s3]
                refine wT (i := 3) (oi := { dst := some 19, op := Op.move (Operand.tmp 6), type := 3, pos := "parse.go:100", after := #[], guard := none }) (v := ?_) rfl (Or.inl ⟨by rfl, ?_⟩) HHeld.out ?_
                rotate_left
                · intro w hSw; clear hSw; go_simp; try with_reducible rfl
                try simp only [pu, pn, s1, s2, s3]
                refine wT (i := 4) (oi := { dst := some 20, op := Op.indexAddr 24 (Operand.tmp 18) (Operand.tmp 19), type := 0, pos := "parse.go:100", after := #[{ on := 2, ground := Ground.data }, { on := 3, ground := Ground.data }], guard := none }) (v := ?_) rfl (Or.inl ⟨by rfl, ?_⟩) HHeld.out ?_
                rotate_left
                · intro w hSw; clear hSw; go_simp; try with_reducible rfl
                try simp only [pu, pn, s1, s2, s3]
                refine wT (i := 6) (oi := { dst := some 22, op := Op.move (Operand.tmp 0), type := 77, pos := "parse.go:100", after := #[], guard := none }) (v := ?_) rfl (Or.inl ⟨by rfl, ?_⟩) HHeld.out ?_
                rotate_left
                · intro w hSw; clear hSw; go_simp; try with_reducible rfl
                try simp only [pu, pn, s1, s2, s3]
                refine wT (i := 7) (oi := { dst := some 23, op := Op.move (Operand.tmp 5), type := 83, pos := "parse.go:100", after := #[], guard := none }) (v := ?_) rfl (Or.inl ⟨by rfl, ?_⟩) HHeld.out ?_
                rotate_left
                · intro w hSw; clear hSw; go_simp; try with_reducible rfl
                try simp only [pu, pn, s1, s2, s3]
                refine wpAnyH_ready (rs := [5, 8]) (by kernel_rfl) (by simp) ?_
                refine AllReadyH.cons (o := { dst := some 21, op := Op.load 43 (Operand.tmp 20), type := 43, pos := "parse.go:100", after := #[{ on := 4, ground := Ground.data }], guard := none }) rfl (fun K hK => ?_) (AllReadyH.cons (o := { dst := some 24, op := Op.call { callee := Callee.value (Operand.func 64), args := #[Operand.tmp 22, Operand.tmp 23], argTypes := #[77, 83] }, type := 47, pos := "parse.go:100", after := #[{ on := 6, ground := Ground.data }, { on := 7, ground := Ground.data }], guard := none }) rfl (fun K hK => ?_) AllReadyH.nil)
                · have hcc := (show w3.drew.cell? ⟨bH, p, none⟩ = _ from HCELL.out)
                  go_simp
                  clear hcc
                  refine hK.out _ _ ?_ (fun hHeld => ?_)
                  · trivial
                  clear HHeld; have HHeld := Lib.hid hHeld; clear hHeld
                  clear hK K
                  try simp only [pu, pn, s1, s2, s3]
                  refine wpAnyH_ready (rs := [8]) (by kernel_rfl) (by simp) ?_
                  refine AllReadyH.cons (o := { dst := some 24, op := Op.call { callee := Callee.value (Operand.func 64), args := #[Operand.tmp 22, Operand.tmp 23], argTypes := #[77, 83] }, type := 47, pos := "parse.go:100", after := #[{ on := 6, ground := Ground.data }, { on := 7, ground := Ground.data }], guard := none }) rfl (fun K hK => ?_) AllReadyH.nil
                  go_simp
                  go_at_call 64; ((refine OP.out.mono ?_); rintro e v ⟨vv, rfl, ⟨Ab, cb, rfl, hrow9⟩, hrb9, cc⟩; have CV := Lib.hid (cc.cell (show w3.drew.cell? ⟨bH, p, none⟩ = some (.slice A1 xs.length c1) from HCELL.out) (by show ¬ bH = g; have := HFP.out.1; have := HGL.out; omega)); have CC := Lib.hid cc; have RB9 := Lib.hid hrb9; have W9 := Lib.hid hrow9; clear cc hrb9 hrow9)
                  simp only [OpV.v]
                  refine hK.out _ _ ?_ (fun hHeld => ?_)
                  · trivial
                  clear HHeld; have HHeld := Lib.hid hHeld; clear hHeld
                  clear hK K
                  try simp only [pu, pn, s1, s2, s3]
                  refine wpAnyH_ready (rs := [9]) (by kernel_rfl) (by simp) ?_
                  refine AllReadyH.cons (o := { dst := some 25, op := Op.buildSlice 43 1 #[(0, Operand.tmp 24)], type := 43, pos := "parse.go:100", after := #[{ on := 8, ground := Ground.data }], guard := none }) rfl (fun K hK => ?_) AllReadyH.nil
                  go_simp
                  refine hK.out _ _ ?_ (fun hHeld => ?_)
                  · trivial
                  clear HHeld; have HHeld := Lib.hid hHeld; clear hHeld
                  clear hK K
                  try simp only [pu, pn, s1, s2, s3]
                  refine wpAnyH_ready (rs := [10]) (by kernel_rfl) (by simp) ?_
                  refine AllReadyH.cons (o := { dst := some 26, op := Op.call { callee := Callee.builtin Builtin.append, args := #[Operand.tmp 21, Operand.tmp 25], argTypes := #[43, 43] }, type := 43, pos := "parse.go:100", after := #[{ on := 5, ground := Ground.data }, { on := 9, ground := Ground.data }, { on := 8, ground := Ground.chain }], guard := none }) rfl (fun K hK => ?_) AllReadyH.nil
                  have GD := Lib.hid ((HGOOD.out.chg ((Chg.refl (fun x => x = g) w3).drew.then CC.out) HGL.out).later (alb v (.cells #[.int .u8 ov.k, .string ov.key, .string ov.too, .int .i64 ov.n, .slice Ab ov.ms.length cb] 47)))
                  have HXS := Lib.hid (show xs.length ≤ 1000000 by have h1 := HGOOD.out.ops.1; have := HZ.out os (by rw [HHS.out.1]; simp); omega)
                  have SV := Lib.hid (show w3.heap.size ≤ v.heap.size from CC.out.size)
                  have BV := Lib.hid (show w.heap.size ≤ (v.alloc (.cells #[.int .u8 ov.k, .string ov.key, .string ov.too, .int .i64 ov.n, .slice Ab ov.ms.length cb] 47)).heap.size by have := C3.out.size; have := SV.out; simp only [World.size_alloc]; omega)
                  refine RE.step_put EO _ rfl (.tmp 21) (.tmp 25) rfl (base := w.heap.size) A1 xs.length c1 xs (some ⟨v.heap.size, 0, none⟩) 1 1 [⟨ov.k, ov.key, ov.too, ov.n, Ab, ov.ms.length, cb⟩] (by simp [Act.eval, Act.put]) (by simp [Act.eval, Act.put]) GD.out.row rfl (HXS.out) BV.out rfl (by omega) (RE.Rd.lit (E := EO) v 47 [⟨ov.k, ov.key, ov.too, ov.n, Ab, ov.ms.length, cb⟩] #[.int .u8 ov.k, .string ov.key, .string ov.too, .int .i64 ov.n, .slice Ab ov.ms.length cb] rfl) ?_
                  intro A5 c5 w5 r1 r2 r3
                  have R5 := Lib.hid r1; have Q5 := Lib.hid r2; have F5 := Lib.hid r3; clear r1 r2 r3
                  have HR5 := Lib.hid ((((HROW.out.chgG ((Chg.refl (fun x => x = g) w3).drew.then CC.out) HGL.out).later (alb v (.cells #[.int .u8 ov.k, .string ov.key, .string ov.too, .int .i64 ov.n, .slice Ab ov.ms.length cb] 47))).kept Q5.out (.inr (fun e => HGOOD.out.ne bH (by rw [← e]; exact HFP.out.2.2) HFP.out.2.2))))
                  refine hK.out _ _ ?_ (fun hHeld => ?_)
                  · trivial
                  clear HHeld; have HHeld := Lib.hid hHeld; clear hHeld
                  clear hK K
                  try simp only [pu, pn, s1, s2, s3]
                  refine wT (i := 11) (oi := { dst := some 27, op := Op.indexAddr 24 (Operand.tmp 16) (Operand.tmp 17), type := 0, pos := "parse.go:100", after := #[{ on := 0, ground := Ground.data }, { on := 1, ground := Ground.data }, { on := 0, ground := Ground.phase }, { on := 1, ground := Ground.phase }, { on := 2, ground := Ground.phase }, { on := 3, ground := Ground.phase }, { on := 4, ground := Ground.phase }, { on := 5, ground := Ground.phase }, { on := 6, ground := Ground.phase }, { on := 7, ground := Ground.phase }, { on := 8, ground := Ground.phase }, { on := 9, ground := Ground.phase }, { on := 10, ground := Ground.phase }], guard := none }) (v := ?_) rfl (Or.inl ⟨by rfl, ?_⟩) HHeld.out ?_
                  rotate_left
                  · intro w hSw; clear hSw; go_simp; try with_reducible rfl
                  try simp only [pu, pn, s1, s2, s3]
                  refine wpAnyH_ready (rs := [12]) (by kernel_rfl) (by simp) ?_
                  refine AllReadyH.cons (o := { dst := none, op := Op.store 43 (Operand.tmp 27) (Operand.tmp 26), type := 0, pos := "parse.go:100", after := #[{ on := 11, ground := Ground.data }, { on := 10, ground := Ground.data }, { on := 10, ground := Ground.chain }, { on := 0, ground := Ground.phase }, { on := 1, ground := Ground.phase }, { on := 2, ground := Ground.phase }, { on := 3, ground := Ground.phase }, { on := 4, ground := Ground.phase }, { on := 5, ground := Ground.phase }, { on := 6, ground := Ground.phase }, { on := 7, ground := Ground.phase }, { on := 8, ground := Ground.phase }, { on := 9, ground := Ground.phase }, { on := 10, ground := Ground.phase }], guard := none }) rfl (fun K hK => ?_) AllReadyH.nil
                  obtain ⟨cur, hcur⟩ := eh_heap HR5.out rfl (by rw [HHS.out.2.2.2]; have := HM2.out; omega)
                  have f0 : w5.frozen? ⟨bH, p, none⟩ = false := froh hcur
                  obtain ⟨v0, hv0⟩ : ∃ v0, w5.cell? ⟨bH, p, none⟩ = some v0 := by
                    have hx : hs[p]? = some ⟨A1, xs.length, c1⟩ := by rw [HHS.out.2.1, ← HHS.out.2.2.1]; simp
                    have q := (HR5.out.rd.at hx).2 0 (.slice A1 xs.length c1) rfl
                    exact ⟨_, by simpa [EH] using q⟩
                  go_simp
                  clear hcur f0 hv0 v0 cur
                  refine hK.out _ _ ?_ (fun hHeld => ?_)
                  · trivial
                  clear HHeld; have HHeld := Lib.hid hHeld; clear hHeld
                  clear hK K
                  try simp only [pu, pn, s1, s2, s3]
                  refine wpAnyH_done (by kernel_rfl) ?_ _
                  clear HHeld
                  have ZH := Lib.hid (eh_set HR5.out rfl (i := p) (by rw [HHS.out.2.2.2]; have := HM2.out; omega) ⟨A5, xs.length + 1, c5⟩)
                  have C6 := Lib.hid (show Chg (fun y => RE.fp (some ⟨bH, 0, none⟩) c = some y) w5 (w5.setCell ⟨bH, p, none⟩ (.slice A5 (xs.length + 1) c5)) from Chg.set _ _ HFP.out.2.2)
                  obtain ⟨WF, hWF⟩ : ∃ WF, WF = w5.setCell ⟨bH, p, none⟩ (.slice A5 (xs.length + 1) c5) := ⟨_, rfl⟩
                  rw [← hWF] at ZH C6 ⊢
                  clear hWF
                  have B6 := Lib.hid (show Chg (fun x => x = g) w WF from (((C3.out.drew.then CC.out).later (alb v (.cells #[.int .u8 ov.k, .string ov.key, .string ov.too, .int .i64 ov.n, .slice Ab ov.ms.length cb] 47))).thenB (RE.Row.below (lo := w.heap.size) Q5.out GD.out.row (Nat.le_refl _) BV.out)).trans C6.out (fun x e => .inr (by have e2 := HFP.out.2.2; rw [e2] at e; have := Option.some.inj e; have := HFP.out.1; omega)))
                  have RBF := Lib.hid (show RB WF g u9 l9 from C6.out.keep (show w5.heap[g]? = _ from ((RE.Row.below (lo := w.heap.size) Q5.out GD.out.row (Nat.le_refl _) BV.out).block g HGL.out).trans (keep_bel (alb v (.cells #[.int .u8 ov.k, .string ov.key, .string ov.too, .int .i64 ov.n, .slice Ab ov.ms.length cb] 47)) RB9.out)) (by intro e; have e2 := HFP.out.2.2; rw [e2] at e; have := Option.some.inj e; have := HFP.out.1; have := HGL.out; omega))
                  have hd : ∀ x, DD w.heap.size (RE.fp (some ⟨bH, 0, none⟩) c) (RE.fp A1 c1) x → x < w3.heap.size := fun x e => by
                    rcases e with e | e | e
                    · have := C3.out.size; omega
                    · rw [HFP.out.2.2] at e; have := Option.some.inj e; have := HFP.out.2.1; omega
                    · exact (HGOOD.out.row.fp_lt e).2
                  have OPX : OpR (v.alloc (.cells #[.int .u8 ov.k, .string ov.key, .string ov.too, .int .i64 ov.n, .slice Ab ov.ms.length cb] 47)) (DD w.heap.size (RE.fp (some ⟨bH, 0, none⟩) c) (RE.fp A1 c1)) ⟨ov.k, ov.key, ov.too, ov.n, Ab, ov.ms.length, cb⟩ ov := ⟨rfl, rfl, rfl, rfl, rfl, (W9.out.later (alb v (.cells #[.int .u8 ov.k, .string ov.key, .string ov.too, .int .i64 ov.n, .slice Ab ov.ms.length cb] 47))).rdD (fun x hx hb _ e => by have h9 := hd x e; have : w3.heap.size ≤ x := hb; omega)⟩
                  have GF := good_put GD.out OPX Q5.out F5.out R5.out (fun b e => by rw [HFP.out.2.2] at e; have := Option.some.inj e; have := HFP.out.2.1; have := SV.out; simp only [World.size_alloc]; omega) C6.out
                  obtain ⟨e1, e2, e3, e4⟩ := HHS.out
                  have RRF : RR WF w.heap.size g (some ⟨bH, 0, none⟩) m2 c (addLast acc ov) := by
                    refine ⟨hs.set p ⟨A5, xs.length + 1, c5⟩, by rw [List.length_set, e4], ?_, ZH.out, row_fp_lt ZH.out, .inr ⟨pre, os ++ [ov], hp, A5, c5, xs ++ [⟨ov.k, ov.key, ov.too, ov.n, Ab, ov.ms.length, cb⟩], by rw [e1, addLast_eq], ?_, GF⟩⟩
                    · rw [e1, addLast_eq]; have := HRR2.out.len; rw [e1] at this; simpa using this
                    · rw [e2, ← e3]; simp
                  have HZF := Lib.hid (show ∀ rw ∈ addLast acc ov, rw.length + u9.size ≤ 1000000 from fun rw h => by
                    have h1 := HLE.out; have h2 := HNF.out; have h3 := HU.out
                    rw [e1, addLast_eq] at h
                    rcases List.mem_append.1 h with h | h
                    · have := HZ.out rw (by rw [e1]; exact List.mem_append.2 (.inl h)); omega
                    · simp at h; subst h
                      have := HZ.out os (by rw [e1]; simp)
                      rw [List.length_append]; simp only [List.length_cons, List.length_nil]; omega)
                  go_wp2
                  exact ⟨⟨f, u9, l9, addLast acc ov, some ⟨bH, 0, none⟩, m2, c, rfl, HF2, Lib.hid RRF, RBF, Lib.hid (by have h1 := HLE.out; have h2 := HNF.out; have h3 := HU.out; omega), HZF, B6.out⟩, by rw [RBF.out.sz, HRB.out.sz]; have h1 := HLE.out; have h2 := HNF.out; omega⟩
                · go_simp
                  go_at_call 64; ((refine OP.out.mono ?_); rintro e v ⟨vv, rfl, ⟨Ab, cb, rfl, hrow9⟩, hrb9, cc⟩; have CV := Lib.hid (cc.cell (show w3.drew.cell? ⟨bH, p, none⟩ = some (.slice A1 xs.length c1) from HCELL.out) (by show ¬ bH = g; have := HFP.out.1; have := HGL.out; omega)); have CC := Lib.hid cc; have RB9 := Lib.hid hrb9; have W9 := Lib.hid hrow9; clear cc hrb9 hrow9)
                  simp only [OpV.v]
                  refine hK.out _ _ ?_ (fun hHeld => ?_)
                  · trivial
                  clear HHeld; have HHeld := Lib.hid hHeld; clear hHeld
                  clear hK K
                  try simp only [pu, pn, s1, s2, s3]
                  refine wpAnyH_ready (rs := [5, 9]) (by kernel_rfl) (by simp) ?_
                  refine AllReadyH.cons (o := { dst := some 21, op := Op.load 43 (Operand.tmp 20), type := 43, pos := "parse.go:100", after := #[{ on := 4, ground := Ground.data }], guard := none }) rfl (fun K hK => ?_) (AllReadyH.cons (o := { dst := some 25, op := Op.buildSlice 43 1 #[(0, Operand.tmp 24)], type := 43, pos := "parse.go:100", after := #[{ on := 8, ground := Ground.data }], guard := none }) rfl (fun K hK => ?_) AllReadyH.nil)
                  · have hcc := CV.out
                    go_simp
                    clear hcc
                    refine hK.out _ _ ?_ (fun hHeld => ?_)
                    · trivial
                    clear HHeld; have HHeld := Lib.hid hHeld; clear hHeld
                    clear hK K
                    try simp only [pu, pn, s1, s2, s3]
                    refine wpAnyH_ready (rs := [9]) (by kernel_rfl) (by simp) ?_
                    refine AllReadyH.cons (o := { dst := some 25, op := Op.buildSlice 43 1 #[(0, Operand.tmp 24)], type := 43, pos := "parse.go:100", after := #[{ on := 8, ground := Ground.data }], guard := none }) rfl (fun K hK => ?_) AllReadyH.nil
                    go_simp
                    refine hK.out _ _ ?_ (fun hHeld => ?_)
                    · trivial
                    clear HHeld; have HHeld := Lib.hid hHeld; clear hHeld
                    clear hK K
                    try simp only [pu, pn, s1, s2, s3]
                    refine wpAnyH_ready (rs := [10]) (by kernel_rfl) (by simp) ?_
                    refine AllReadyH.cons (o := { dst := some 26, op := Op.call { callee := Callee.builtin Builtin.append, args := #[Operand.tmp 21, Operand.tmp 25], argTypes := #[43, 43] }, type := 43, pos := "parse.go:100", after := #[{ on := 5, ground := Ground.data }, { on := 9, ground := Ground.data }, { on := 8, ground := Ground.chain }], guard := none }) rfl (fun K hK => ?_) AllReadyH.nil
                    have GD := Lib.hid ((HGOOD.out.chg ((Chg.refl (fun x => x = g) w3).drew.then CC.out) HGL.out).later (alb v (.cells #[.int .u8 ov.k, .string ov.key, .string ov.too, .int .i64 ov.n, .slice Ab ov.ms.length cb] 47)))
                    have HXS := Lib.hid (show xs.length ≤ 1000000 by have h1 := HGOOD.out.ops.1; have := HZ.out os (by rw [HHS.out.1]; simp); omega)
                    have SV := Lib.hid (show w3.heap.size ≤ v.heap.size from CC.out.size)
                    have BV := Lib.hid (show w.heap.size ≤ (v.alloc (.cells #[.int .u8 ov.k, .string ov.key, .string ov.too, .int .i64 ov.n, .slice Ab ov.ms.length cb] 47)).heap.size by have := C3.out.size; have := SV.out; simp only [World.size_alloc]; omega)
                    refine RE.step_put EO _ rfl (.tmp 21) (.tmp 25) rfl (base := w.heap.size) A1 xs.length c1 xs (some ⟨v.heap.size, 0, none⟩) 1 1 [⟨ov.k, ov.key, ov.too, ov.n, Ab, ov.ms.length, cb⟩] (by simp [Act.eval, Act.put]) (by simp [Act.eval, Act.put]) GD.out.row rfl (HXS.out) BV.out rfl (by omega) (RE.Rd.lit (E := EO) v 47 [⟨ov.k, ov.key, ov.too, ov.n, Ab, ov.ms.length, cb⟩] #[.int .u8 ov.k, .string ov.key, .string ov.too, .int .i64 ov.n, .slice Ab ov.ms.length cb] rfl) ?_
                    intro A5 c5 w5 r1 r2 r3
                    have R5 := Lib.hid r1; have Q5 := Lib.hid r2; have F5 := Lib.hid r3; clear r1 r2 r3
                    have HR5 := Lib.hid ((((HROW.out.chgG ((Chg.refl (fun x => x = g) w3).drew.then CC.out) HGL.out).later (alb v (.cells #[.int .u8 ov.k, .string ov.key, .string ov.too, .int .i64 ov.n, .slice Ab ov.ms.length cb] 47))).kept Q5.out (.inr (fun e => HGOOD.out.ne bH (by rw [← e]; exact HFP.out.2.2) HFP.out.2.2))))
                    refine hK.out _ _ ?_ (fun hHeld => ?_)
                    · trivial
                    clear HHeld; have HHeld := Lib.hid hHeld; clear hHeld
                    clear hK K
                    try simp only [pu, pn, s1, s2, s3]
                    refine wT (i := 11) (oi := { dst := some 27, op := Op.indexAddr 24 (Operand.tmp 16) (Operand.tmp 17), type := 0, pos := "parse.go:100", after := #[{ on := 0, ground := Ground.data }, { on := 1, ground := Ground.data }, { on := 0, ground := Ground.phase }, { on := 1, ground := Ground.phase }, { on := 2, ground := Ground.phase }, { on := 3, ground := Ground.phase }, { on := 4, ground := Ground.phase }, { on := 5, ground := Ground.phase }, { on := 6, ground := Ground.phase }, { on := 7, ground := Ground.phase }, { on := 8, ground := Ground.phase }, { on := 9, ground := Ground.phase }, { on := 10, ground := Ground.phase }], guard := none }) (v := ?_) rfl (Or.inl ⟨by rfl, ?_⟩) HHeld.out ?_
                    rotate_left
                    · intro w hSw; clear hSw; go_simp; try with_reducible rfl
                    try simp only [pu, pn, s1, s2, s3]
                    refine wpAnyH_ready (rs := [12]) (by kernel_rfl) (by simp) ?_
                    refine AllReadyH.cons (o := { dst := none, op := Op.store 43 (Operand.tmp 27) (Operand.tmp 26), type := 0, pos := "parse.go:100", after := #[{ on := 11, ground := Ground.data }, { on := 10, ground := Ground.data }, { on := 10, ground := Ground.chain }, { on := 0, ground := Ground.phase }, { on := 1, ground := Ground.phase }, { on := 2, ground := Ground.phase }, { on := 3, ground := Ground.phase }, { on := 4, ground := Ground.phase }, { on := 5, ground := Ground.phase }, { on := 6, ground := Ground.phase }, { on := 7, ground := Ground.phase }, { on := 8, ground := Ground.phase }, { on := 9, ground := Ground.phase }, { on := 10, ground := Ground.phase }], guard := none }) rfl (fun K hK => ?_) AllReadyH.nil
                    obtain ⟨cur, hcur⟩ := eh_heap HR5.out rfl (by rw [HHS.out.2.2.2]; have := HM2.out; omega)
                    have f0 : w5.frozen? ⟨bH, p, none⟩ = false := froh hcur
                    obtain ⟨v0, hv0⟩ : ∃ v0, w5.cell? ⟨bH, p, none⟩ = some v0 := by
                      have hx : hs[p]? = some ⟨A1, xs.length, c1⟩ := by rw [HHS.out.2.1, ← HHS.out.2.2.1]; simp
                      have q := (HR5.out.rd.at hx).2 0 (.slice A1 xs.length c1) rfl
                      exact ⟨_, by simpa [EH] using q⟩
                    go_simp
                    clear hcur f0 hv0 v0 cur
                    refine hK.out _ _ ?_ (fun hHeld => ?_)
                    · trivial
                    clear HHeld; have HHeld := Lib.hid hHeld; clear hHeld
                    clear hK K
                    try simp only [pu, pn, s1, s2, s3]
                    refine wpAnyH_done (by kernel_rfl) ?_ _
                    clear HHeld
                    have ZH := Lib.hid (eh_set HR5.out rfl (i := p) (by rw [HHS.out.2.2.2]; have := HM2.out; omega) ⟨A5, xs.length + 1, c5⟩)
                    have C6 := Lib.hid (show Chg (fun y => RE.fp (some ⟨bH, 0, none⟩) c = some y) w5 (w5.setCell ⟨bH, p, none⟩ (.slice A5 (xs.length + 1) c5)) from Chg.set _ _ HFP.out.2.2)
                    obtain ⟨WF, hWF⟩ : ∃ WF, WF = w5.setCell ⟨bH, p, none⟩ (.slice A5 (xs.length + 1) c5) := ⟨_, rfl⟩
                    rw [← hWF] at ZH C6 ⊢
                    clear hWF
                    have B6 := Lib.hid (show Chg (fun x => x = g) w WF from (((C3.out.drew.then CC.out).later (alb v (.cells #[.int .u8 ov.k, .string ov.key, .string ov.too, .int .i64 ov.n, .slice Ab ov.ms.length cb] 47))).thenB (RE.Row.below (lo := w.heap.size) Q5.out GD.out.row (Nat.le_refl _) BV.out)).trans C6.out (fun x e => .inr (by have e2 := HFP.out.2.2; rw [e2] at e; have := Option.some.inj e; have := HFP.out.1; omega)))
                    have RBF := Lib.hid (show RB WF g u9 l9 from C6.out.keep (show w5.heap[g]? = _ from ((RE.Row.below (lo := w.heap.size) Q5.out GD.out.row (Nat.le_refl _) BV.out).block g HGL.out).trans (keep_bel (alb v (.cells #[.int .u8 ov.k, .string ov.key, .string ov.too, .int .i64 ov.n, .slice Ab ov.ms.length cb] 47)) RB9.out)) (by intro e; have e2 := HFP.out.2.2; rw [e2] at e; have := Option.some.inj e; have := HFP.out.1; have := HGL.out; omega))
                    have hd : ∀ x, DD w.heap.size (RE.fp (some ⟨bH, 0, none⟩) c) (RE.fp A1 c1) x → x < w3.heap.size := fun x e => by
                      rcases e with e | e | e
                      · have := C3.out.size; omega
                      · rw [HFP.out.2.2] at e; have := Option.some.inj e; have := HFP.out.2.1; omega
                      · exact (HGOOD.out.row.fp_lt e).2
                    have OPX : OpR (v.alloc (.cells #[.int .u8 ov.k, .string ov.key, .string ov.too, .int .i64 ov.n, .slice Ab ov.ms.length cb] 47)) (DD w.heap.size (RE.fp (some ⟨bH, 0, none⟩) c) (RE.fp A1 c1)) ⟨ov.k, ov.key, ov.too, ov.n, Ab, ov.ms.length, cb⟩ ov := ⟨rfl, rfl, rfl, rfl, rfl, (W9.out.later (alb v (.cells #[.int .u8 ov.k, .string ov.key, .string ov.too, .int .i64 ov.n, .slice Ab ov.ms.length cb] 47))).rdD (fun x hx hb _ e => by have h9 := hd x e; have : w3.heap.size ≤ x := hb; omega)⟩
                    have GF := good_put GD.out OPX Q5.out F5.out R5.out (fun b e => by rw [HFP.out.2.2] at e; have := Option.some.inj e; have := HFP.out.2.1; have := SV.out; simp only [World.size_alloc]; omega) C6.out
                    obtain ⟨e1, e2, e3, e4⟩ := HHS.out
                    have RRF : RR WF w.heap.size g (some ⟨bH, 0, none⟩) m2 c (addLast acc ov) := by
                      refine ⟨hs.set p ⟨A5, xs.length + 1, c5⟩, by rw [List.length_set, e4], ?_, ZH.out, row_fp_lt ZH.out, .inr ⟨pre, os ++ [ov], hp, A5, c5, xs ++ [⟨ov.k, ov.key, ov.too, ov.n, Ab, ov.ms.length, cb⟩], by rw [e1, addLast_eq], ?_, GF⟩⟩
                      · rw [e1, addLast_eq]; have := HRR2.out.len; rw [e1] at this; simpa using this
                      · rw [e2, ← e3]; simp
                    have HZF := Lib.hid (show ∀ rw ∈ addLast acc ov, rw.length + u9.size ≤ 1000000 from fun rw h => by
                      have h1 := HLE.out; have h2 := HNF.out; have h3 := HU.out
                      rw [e1, addLast_eq] at h
                      rcases List.mem_append.1 h with h | h
                      · have := HZ.out rw (by rw [e1]; exact List.mem_append.2 (.inl h)); omega
                      · simp at h; subst h
                        have := HZ.out os (by rw [e1]; simp)
                        rw [List.length_append]; simp only [List.length_cons, List.length_nil]; omega)
                    go_wp2
                    exact ⟨⟨f, u9, l9, addLast acc ov, some ⟨bH, 0, none⟩, m2, c, rfl, HF2, Lib.hid RRF, RBF, Lib.hid (by have h1 := HLE.out; have h2 := HNF.out; have h3 := HU.out; omega), HZF, B6.out⟩, by rw [RBF.out.sz, HRB.out.sz]; have h1 := HLE.out; have h2 := HNF.out; omega⟩
                  · go_simp
                    refine hK.out _ _ ?_ (fun hHeld => ?_)
                    · trivial
                    clear HHeld; have HHeld := Lib.hid hHeld; clear hHeld
                    clear hK K
                    try simp only [pu, pn, s1, s2, s3]
                    refine wpAnyH_ready (rs := [5]) (by kernel_rfl) (by simp) ?_
                    refine AllReadyH.cons (o := { dst := some 21, op := Op.load 43 (Operand.tmp 20), type := 43, pos := "parse.go:100", after := #[{ on := 4, ground := Ground.data }], guard := none }) rfl (fun K hK => ?_) AllReadyH.nil
                    have hcc := (bel_later (alb v (.cells #[.int .u8 ov.k, .string ov.key, .string ov.too, .int .i64 ov.n, .slice Ab ov.ms.length cb] 47)) CV.out)
                    go_simp
                    clear hcc
                    refine hK.out _ _ ?_ (fun hHeld => ?_)
                    · trivial
                    clear HHeld; have HHeld := Lib.hid hHeld; clear hHeld
                    clear hK K
                    try simp only [pu, pn, s1, s2, s3]
                    refine wpAnyH_ready (rs := [10]) (by kernel_rfl) (by simp) ?_
                    refine AllReadyH.cons (o := { dst := some 26, op := Op.call { callee := Callee.builtin Builtin.append, args := #[Operand.tmp 21, Operand.tmp 25], argTypes := #[43, 43] }, type := 43, pos := "parse.go:100", after := #[{ on := 5, ground := Ground.data }, { on := 9, ground := Ground.data }, { on := 8, ground := Ground.chain }], guard := none }) rfl (fun K hK => ?_) AllReadyH.nil
                    have GD := Lib.hid ((HGOOD.out.chg ((Chg.refl (fun x => x = g) w3).drew.then CC.out) HGL.out).later (alb v (.cells #[.int .u8 ov.k, .string ov.key, .string ov.too, .int .i64 ov.n, .slice Ab ov.ms.length cb] 47)))
                    have HXS := Lib.hid (show xs.length ≤ 1000000 by have h1 := HGOOD.out.ops.1; have := HZ.out os (by rw [HHS.out.1]; simp); omega)
                    have SV := Lib.hid (show w3.heap.size ≤ v.heap.size from CC.out.size)
                    have BV := Lib.hid (show w.heap.size ≤ (v.alloc (.cells #[.int .u8 ov.k, .string ov.key, .string ov.too, .int .i64 ov.n, .slice Ab ov.ms.length cb] 47)).heap.size by have := C3.out.size; have := SV.out; simp only [World.size_alloc]; omega)
                    refine RE.step_put EO _ rfl (.tmp 21) (.tmp 25) rfl (base := w.heap.size) A1 xs.length c1 xs (some ⟨v.heap.size, 0, none⟩) 1 1 [⟨ov.k, ov.key, ov.too, ov.n, Ab, ov.ms.length, cb⟩] (by simp [Act.eval, Act.put]) (by simp [Act.eval, Act.put]) GD.out.row rfl (HXS.out) BV.out rfl (by omega) (RE.Rd.lit (E := EO) v 47 [⟨ov.k, ov.key, ov.too, ov.n, Ab, ov.ms.length, cb⟩] #[.int .u8 ov.k, .string ov.key, .string ov.too, .int .i64 ov.n, .slice Ab ov.ms.length cb] rfl) ?_
                    intro A5 c5 w5 r1 r2 r3
                    have R5 := Lib.hid r1; have Q5 := Lib.hid r2; have F5 := Lib.hid r3; clear r1 r2 r3
                    have HR5 := Lib.hid ((((HROW.out.chgG ((Chg.refl (fun x => x = g) w3).drew.then CC.out) HGL.out).later (alb v (.cells #[.int .u8 ov.k, .string ov.key, .string ov.too, .int .i64 ov.n, .slice Ab ov.ms.length cb] 47))).kept Q5.out (.inr (fun e => HGOOD.out.ne bH (by rw [← e]; exact HFP.out.2.2) HFP.out.2.2))))
                    refine hK.out _ _ ?_ (fun hHeld => ?_)
                    · trivial
                    clear HHeld; have HHeld := Lib.hid hHeld; clear hHeld
                    clear hK K
                    try simp only [pu, pn, s1, s2, s3]
                    refine wT (i := 11) (oi := { dst := some 27, op := Op.indexAddr 24 (Operand.tmp 16) (Operand.tmp 17), type := 0, pos := "parse.go:100", after := #[{ on := 0, ground := Ground.data }, { on := 1, ground := Ground.data }, { on := 0, ground := Ground.phase }, { on := 1, ground := Ground.phase }, { on := 2, ground := Ground.phase }, { on := 3, ground := Ground.phase }, { on := 4, ground := Ground.phase }, { on := 5, ground := Ground.phase }, { on := 6, ground := Ground.phase }, { on := 7, ground := Ground.phase }, { on := 8, ground := Ground.phase }, { on := 9, ground := Ground.phase }, { on := 10, ground := Ground.phase }], guard := none }) (v := ?_) rfl (Or.inl ⟨by rfl, ?_⟩) HHeld.out ?_
                    rotate_left
                    · intro w hSw; clear hSw; go_simp; try with_reducible rfl
                    try simp only [pu, pn, s1, s2, s3]
                    refine wpAnyH_ready (rs := [12]) (by kernel_rfl) (by simp) ?_
                    refine AllReadyH.cons (o := { dst := none, op := Op.store 43 (Operand.tmp 27) (Operand.tmp 26), type := 0, pos := "parse.go:100", after := #[{ on := 11, ground := Ground.data }, { on := 10, ground := Ground.data }, { on := 10, ground := Ground.chain }, { on := 0, ground := Ground.phase }, { on := 1, ground := Ground.phase }, { on := 2, ground := Ground.phase }, { on := 3, ground := Ground.phase }, { on := 4, ground := Ground.phase }, { on := 5, ground := Ground.phase }, { on := 6, ground := Ground.phase }, { on := 7, ground := Ground.phase }, { on := 8, ground := Ground.phase }, { on := 9, ground := Ground.phase }, { on := 10, ground := Ground.phase }], guard := none }) rfl (fun K hK => ?_) AllReadyH.nil
                    obtain ⟨cur, hcur⟩ := eh_heap HR5.out rfl (by rw [HHS.out.2.2.2]; have := HM2.out; omega)
                    have f0 : w5.frozen? ⟨bH, p, none⟩ = false := froh hcur
                    obtain ⟨v0, hv0⟩ : ∃ v0, w5.cell? ⟨bH, p, none⟩ = some v0 := by
                      have hx : hs[p]? = some ⟨A1, xs.length, c1⟩ := by rw [HHS.out.2.1, ← HHS.out.2.2.1]; simp
                      have q := (HR5.out.rd.at hx).2 0 (.slice A1 xs.length c1) rfl
                      exact ⟨_, by simpa [EH] using q⟩
                    go_simp
                    clear hcur f0 hv0 v0 cur
                    refine hK.out _ _ ?_ (fun hHeld => ?_)
                    · trivial
                    clear HHeld; have HHeld := Lib.hid hHeld; clear hHeld
                    clear hK K
                    try simp only [pu, pn, s1, s2, s3]
                    refine wpAnyH_done (by kernel_rfl) ?_ _
                    clear HHeld
                    have ZH := Lib.hid (eh_set HR5.out rfl (i := p) (by rw [HHS.out.2.2.2]; have := HM2.out; omega) ⟨A5, xs.length + 1, c5⟩)
                    have C6 := Lib.hid (show Chg (fun y => RE.fp (some ⟨bH, 0, none⟩) c = some y) w5 (w5.setCell ⟨bH, p, none⟩ (.slice A5 (xs.length + 1) c5)) from Chg.set _ _ HFP.out.2.2)
                    obtain ⟨WF, hWF⟩ : ∃ WF, WF = w5.setCell ⟨bH, p, none⟩ (.slice A5 (xs.length + 1) c5) := ⟨_, rfl⟩
                    rw [← hWF] at ZH C6 ⊢
                    clear hWF
                    have B6 := Lib.hid (show Chg (fun x => x = g) w WF from (((C3.out.drew.then CC.out).later (alb v (.cells #[.int .u8 ov.k, .string ov.key, .string ov.too, .int .i64 ov.n, .slice Ab ov.ms.length cb] 47))).thenB (RE.Row.below (lo := w.heap.size) Q5.out GD.out.row (Nat.le_refl _) BV.out)).trans C6.out (fun x e => .inr (by have e2 := HFP.out.2.2; rw [e2] at e; have := Option.some.inj e; have := HFP.out.1; omega)))
                    have RBF := Lib.hid (show RB WF g u9 l9 from C6.out.keep (show w5.heap[g]? = _ from ((RE.Row.below (lo := w.heap.size) Q5.out GD.out.row (Nat.le_refl _) BV.out).block g HGL.out).trans (keep_bel (alb v (.cells #[.int .u8 ov.k, .string ov.key, .string ov.too, .int .i64 ov.n, .slice Ab ov.ms.length cb] 47)) RB9.out)) (by intro e; have e2 := HFP.out.2.2; rw [e2] at e; have := Option.some.inj e; have := HFP.out.1; have := HGL.out; omega))
                    have hd : ∀ x, DD w.heap.size (RE.fp (some ⟨bH, 0, none⟩) c) (RE.fp A1 c1) x → x < w3.heap.size := fun x e => by
                      rcases e with e | e | e
                      · have := C3.out.size; omega
                      · rw [HFP.out.2.2] at e; have := Option.some.inj e; have := HFP.out.2.1; omega
                      · exact (HGOOD.out.row.fp_lt e).2
                    have OPX : OpR (v.alloc (.cells #[.int .u8 ov.k, .string ov.key, .string ov.too, .int .i64 ov.n, .slice Ab ov.ms.length cb] 47)) (DD w.heap.size (RE.fp (some ⟨bH, 0, none⟩) c) (RE.fp A1 c1)) ⟨ov.k, ov.key, ov.too, ov.n, Ab, ov.ms.length, cb⟩ ov := ⟨rfl, rfl, rfl, rfl, rfl, (W9.out.later (alb v (.cells #[.int .u8 ov.k, .string ov.key, .string ov.too, .int .i64 ov.n, .slice Ab ov.ms.length cb] 47))).rdD (fun x hx hb _ e => by have h9 := hd x e; have : w3.heap.size ≤ x := hb; omega)⟩
                    have GF := good_put GD.out OPX Q5.out F5.out R5.out (fun b e => by rw [HFP.out.2.2] at e; have := Option.some.inj e; have := HFP.out.2.1; have := SV.out; simp only [World.size_alloc]; omega) C6.out
                    obtain ⟨e1, e2, e3, e4⟩ := HHS.out
                    have RRF : RR WF w.heap.size g (some ⟨bH, 0, none⟩) m2 c (addLast acc ov) := by
                      refine ⟨hs.set p ⟨A5, xs.length + 1, c5⟩, by rw [List.length_set, e4], ?_, ZH.out, row_fp_lt ZH.out, .inr ⟨pre, os ++ [ov], hp, A5, c5, xs ++ [⟨ov.k, ov.key, ov.too, ov.n, Ab, ov.ms.length, cb⟩], by rw [e1, addLast_eq], ?_, GF⟩⟩
                      · rw [e1, addLast_eq]; have := HRR2.out.len; rw [e1] at this; simpa using this
                      · rw [e2, ← e3]; simp
                    have HZF := Lib.hid (show ∀ rw ∈ addLast acc ov, rw.length + u9.size ≤ 1000000 from fun rw h => by
                      have h1 := HLE.out; have h2 := HNF.out; have h3 := HU.out
                      rw [e1, addLast_eq] at h
                      rcases List.mem_append.1 h with h | h
                      · have := HZ.out rw (by rw [e1]; exact List.mem_append.2 (.inl h)); omega
                      · simp at h; subst h
                        have := HZ.out os (by rw [e1]; simp)
                        rw [List.length_append]; simp only [List.length_cons, List.length_nil]; omega)
                    go_wp2
                    exact ⟨⟨f, u9, l9, addLast acc ov, some ⟨bH, 0, none⟩, m2, c, rfl, HF2, Lib.hid RRF, RBF, Lib.hid (by have h1 := HLE.out; have h2 := HNF.out; have h3 := HU.out; omega), HZF, B6.out⟩, by rw [RBF.out.sz, HRB.out.sz]; have h1 := HLE.out; have h2 := HNF.out; omega⟩
          · have d1 : (y.toList == [115, 101, 115, 115, 105, 111, 110]) = false := lit_ne (fun e => hyw (ba_inj e))
            cases m with
            | zero =>
              have hacc : acc = [] := List.eq_nil_of_length_eq_zero HRR2.out.len
              rw [if_pos hacc] at hF
              have HE : Hid (r = .error (l + 1, 3)) := Lib.hid hF.symm
              clear hF hyp hys hyw hacc hU
              go_wp2_with (first
                | (go_at_call 41; ((with_reducible refine NX.out.mono ?_); rintro e w3 ⟨b3, n3, rfl, h31, h32, h33, h34, c3⟩; have C3 := Lib.hid (HC.out.then c3); have R3 := Lib.hid h34; have c0 := wd_cell h33 (i := 0) HNF.out.1; rw [HY0.out] at c0; have e4 : (0 : Int) < (n3 : Int) := (by have := HNF.out.1; omega); clear c3 h31 h32 h33 h34))
                | (go_at_call 42; ((with_reducible refine (check_bad g 3 _ R3.out).mono ?_); rintro e w0 ⟨rfl, rfl⟩))
                | fail)
              refine ⟨rfl, ?_⟩
              rw [HE.out]
              exact ⟨rfl, C3.out⟩
            | succ p =>
              have hacc : ¬ acc = [] := fun e => by have := HRR2.out.len; rw [e] at this; cases this
              rw [if_neg hacc] at hF
              obtain ⟨m2, hm2⟩ : ∃ m2, m2 = p + 1 := ⟨_, rfl⟩
              rw [← hm2] at HRR2 NEXT HU hU ⊢
              have HM2 := Lib.hid hm2
              have wl : IntKind.i64.wrap ((m2 : Int) - 1) = (p : Int) := by rw [IntWalk.i64_in _ (by omega)]; omega
              have k0 : (0 : Int) ≤ (p : Int) := by omega
              have kp : (p : Int) < (m2 : Int) := by omega
              obtain ⟨q, hq⟩ : ∃ q, opF ws u2 (l + 1) = q := ⟨_, rfl⟩
              rw [hq] at hF
              have HQ := Lib.hid hq
              clear hyp hys hyw hacc hU hm2 hq
              go_upto_region 5 with (first
                | (go_at_call 41; ((with_reducible refine NX.out.mono ?_); rintro e w3 ⟨b3, n3, rfl, h31, h32, h33, h34, c3⟩; have C3 := Lib.hid (HC.out.then c3); have R3 := Lib.hid h34; have c0 := wd_cell h33 (i := 0) HNF.out.1; rw [HY0.out] at c0; have e4 : (0 : Int) < (n3 : Int) := (by have := HNF.out.1; omega); have RR3 := Lib.hid (NEXT.out _ c3); have G3 := Lib.hid (GW1.out.chg c3 hg); have W3 := Lib.hid h33; have N3 := Lib.hid h32; clear c3 h31 h32 h33 h34))
                | (go_at_call 42; ((with_reducible refine (check_ok g 3 _).mono ?_); rintro e w0 ⟨rfl, rfl⟩))
                | fail)
              have OP := Lib.hid (rop_any n3 (R3.out.later (Below.refl _ _).drew) (G3.out.later (Below.refl _ _).drew) hg (by have := HNF.out; have := HU.out; omega) (by have := HNF.out; have := HU.out; omega) N3.out (by have := HNF.out.1; have := N3.out; omega) (by have := HNF.out.2.1; have := HU.out; have := N3.out; omega) (W3.out.later (Below.refl _ _).drew) (wd_size HNF.out.2.2.2))
              rw [HQ.out] at OP
              obtain ⟨hs, hl1, hl2, hrow, hfl, hgood⟩ := RR3.out.h
              rcases hgood with ⟨e1, e2⟩ | ⟨pre, os, hp, A1, c1, xs, e1, e2, hgood⟩
              · exfalso; rw [e2] at hl1; have := HM2.out; simp at hl1; omega
              have hpl : hp.length = p := by rw [e2] at hl1; have := HM2.out; simp at hl1; omega
              obtain ⟨bH, rfl, hb1, hb2, hb3⟩ := hrow.blk (by rw [hl1]; have := HM2.out; omega)
              have HGOOD := Lib.hid hgood
              have HROW := Lib.hid hrow
              have HHS := Lib.hid (And.intro e1 (And.intro e2 (And.intro hpl hl1)))
              have HFP := Lib.hid (And.intro hb1 (And.intro hb2 hb3))
              have hcell : w3.cell? ⟨bH, p, none⟩ = some (.slice A1 xs.length c1) := by
                have hx : hs[p]? = some ⟨A1, xs.length, c1⟩ := by rw [e2, ← hpl]; simp
                have q := (hrow.rd.at hx).2 0 (.slice A1 xs.length c1) rfl
                simpa [EH] using q
              have HCELL := Lib.hid hcell
              clear hcell hgood hrow hl1 hl2 hfl e1 e2 hpl hb1 hb2 hb3 R3
              cases q with
              | error er =>
                obtain ⟨l9, e9⟩ := er
                simp only at hF
                have HE : Hid (r = .error (l9, e9)) := Lib.hid hF.symm
                clear hF
                refine wp_region_held_drew (S := (fun _ : World => True)) (by kernel_rfl) ?_ (fun hHeld => ?_)
                · trivial
                have HHeld := Lib.hid hHeld; clear hHeld
                refine wT (i := 0) (oi := { dst := some 16, op := Op.move (Operand.tmp 4), type := 24, pos := "parse.go:100", after := #[], guard := none }) (v := ?_) rfl (Or.inl ⟨by rfl, ?_⟩) HHeld.out ?_
                rotate_left
                · intro w hSw; clear hSw; go_simp; try with_reducible rfl
                try simp only [pu, pn, s1, s2, s3]
                refine wT (i := 1) (oi := { dst := some 17, op := Op.move (Operand.tmp 6), type := 3, pos := "parse.go:100", after := #[], guard := none }) (v := ?_) rfl (Or.inl ⟨by rfl, ?_⟩) HHeld.out ?_
                rotate_left
                · intro w hSw; clear hSw; go_simp; try with_reducible rfl
                try simp only [pu, pn, s1, s2, s3]
                refine wT (i := 2) (oi := { dst := some 18, op := Op.move (Operand.tmp 4), type := 24, pos := "parse.go:100", after := #[], guard := none }) (v := ?_) rfl (Or.inl ⟨by rfl, ?_⟩) HHeld.out ?_
                rotate_left
                · intro w hSw; clear hSw; go_simp; try with_reducible rfl
                try simp only [pu, pn, s1, s2, s3]
                refine wT (i := 3) (oi := { dst := some 19, op := Op.move (Operand.tmp 6), type := 3, pos := "parse.go:100", after := #[], guard := none }) (v := ?_) rfl (Or.inl ⟨by rfl, ?_⟩) HHeld.out ?_
                rotate_left
                · intro w hSw; clear hSw; go_simp; try with_reducible rfl
                try simp only [pu, pn, s1, s2, s3]
                refine wT (i := 4) (oi := { dst := some 20, op := Op.indexAddr 24 (Operand.tmp 18) (Operand.tmp 19), type := 0, pos := "parse.go:100", after := #[{ on := 2, ground := Ground.data }, { on := 3, ground := Ground.data }], guard := none }) (v := ?_) rfl (Or.inl ⟨by rfl, ?_⟩) HHeld.out ?_
                rotate_left
                · intro w hSw; clear hSw; go_simp; try with_reducible rfl
                try simp only [pu, pn, s1, s2, s3]
                refine wT (i := 6) (oi := { dst := some 22, op := Op.move (Operand.tmp 0), type := 77, pos := "parse.go:100", after := #[], guard := none }) (v := ?_) rfl (Or.inl ⟨by rfl, ?_⟩) HHeld.out ?_
                rotate_left
                · intro w hSw; clear hSw; go_simp; try with_reducible rfl
                try simp only [pu, pn, s1, s2, s3]
                refine wT (i := 7) (oi := { dst := some 23, op := Op.move (Operand.tmp 5), type := 83, pos := "parse.go:100", after := #[], guard := none }) (v := ?_) rfl (Or.inl ⟨by rfl, ?_⟩) HHeld.out ?_
                rotate_left
                · intro w hSw; clear hSw; go_simp; try with_reducible rfl
                try simp only [pu, pn, s1, s2, s3]
                refine wpAnyH_ready (rs := [5, 8]) (by kernel_rfl) (by simp) ?_
                refine AllReadyH.cons (o := { dst := some 21, op := Op.load 43 (Operand.tmp 20), type := 43, pos := "parse.go:100", after := #[{ on := 4, ground := Ground.data }], guard := none }) rfl (fun K hK => ?_) (AllReadyH.cons (o := { dst := some 24, op := Op.call { callee := Callee.value (Operand.func 64), args := #[Operand.tmp 22, Operand.tmp 23], argTypes := #[77, 83] }, type := 47, pos := "parse.go:100", after := #[{ on := 6, ground := Ground.data }, { on := 7, ground := Ground.data }], guard := none }) rfl (fun K hK => ?_) AllReadyH.nil)
                · have hcc := (show w3.drew.cell? ⟨bH, p, none⟩ = _ from HCELL.out)
                  go_simp
                  clear hcc
                  refine hK.out _ _ ?_ (fun hHeld => ?_)
                  · trivial
                  clear HHeld; have HHeld := Lib.hid hHeld; clear hHeld
                  clear hK K
                  try simp only [pu, pn, s1, s2, s3]
                  refine wpAnyH_ready (rs := [8]) (by kernel_rfl) (by simp) ?_
                  refine AllReadyH.cons (o := { dst := some 24, op := Op.call { callee := Callee.value (Operand.func 64), args := #[Operand.tmp 22, Operand.tmp 23], argTypes := #[77, 83] }, type := 47, pos := "parse.go:100", after := #[{ on := 6, ground := Ground.data }, { on := 7, ground := Ground.data }], guard := none }) rfl (fun K hK => ?_) AllReadyH.nil
                  go_simp
                  go_at_call 64; ((refine OP.out.mono ?_); rintro e v ⟨rfl, cc⟩)
                  refine ⟨rfl, ?_⟩
                  rw [HE.out]
                  exact ⟨rfl, C3.out.drew.then cc⟩
                · go_simp
                  go_at_call 64; ((refine OP.out.mono ?_); rintro e v ⟨rfl, cc⟩)
                  refine ⟨rfl, ?_⟩
                  rw [HE.out]
                  exact ⟨rfl, C3.out.drew.then cc⟩
              | ok q2 =>
                obtain ⟨ov, u9, l9⟩ := q2
                simp only at hF
                have HF2 := Lib.hid hF
                have HLE := Lib.hid (op_le HQ.out)
                clear hF
                refine wp_region_held_drew (S := (fun _ : World => True)) (by kernel_rfl) ?_ (fun hHeld => ?_)
                · trivial
                have HHeld := Lib.hid hHeld; clear hHeld
                refine wT (i := 0) (oi := { dst := some 16, op := Op.move (Operand.tmp 4), type := 24, pos := "parse.go:100", after := #[], guard := none }) (v := ?_) rfl (Or.inl ⟨by rfl, ?_⟩) HHeld.out ?_
                rotate_left
                · intro w hSw; clear hSw; go_simp; try with_reducible rfl
                try simp only [pu, pn, s1, s2, s3]
                refine wT (i := 1) (oi := { dst := some 17, op := Op.move (Operand.tmp 6), type := 3, pos := "parse.go:100", after := #[], guard := none }) (v := ?_) rfl (Or.inl ⟨by rfl, ?_⟩) HHeld.out ?_
                rotate_left
                · intro w hSw; clear hSw; go_simp; try with_reducible rfl
                try simp only [pu, pn, s1, s2, s3]
                refine wT (i := 2) (oi := { dst := some 18, op := Op.move (Operand.tmp 4), type := 24, pos := "parse.go:100", after := #[], guard := none }) (v := ?_) rfl (Or.inl ⟨by rfl, ?_⟩) HHeld.out ?_
                rotate_left
                · intro w hSw; clear hSw; go_simp; try with_reducible rfl
                try simp only [pu, pn, s1, s2, s3]
                refine wT (i := 3) (oi := { dst := some 19, op := Op.move (Operand.tmp 6), type := 3, pos := "parse.go:100", after := #[], guard := none }) (v := ?_) rfl (Or.inl ⟨by rfl, ?_⟩) HHeld.out ?_
                rotate_left
                · intro w hSw; clear hSw; go_simp; try with_reducible rfl
                try simp only [pu, pn, s1, s2, s3]
                refine wT (i := 4) (oi := { dst := some 20, op := Op.indexAddr 24 (Operand.tmp 18) (Operand.tmp 19), type := 0, pos := "parse.go:100", after := #[{ on := 2, ground := Ground.data }, { on := 3, ground := Ground.data }], guard := none }) (v := ?_) rfl (Or.inl ⟨by rfl, ?_⟩) HHeld.out ?_
                rotate_left
                · intro w hSw; clear hSw; go_simp; try with_reducible rfl
                try simp only [pu, pn, s1, s2, s3]
                refine wT (i := 6) (oi := { dst := some 22, op := Op.move (Operand.tmp 0), type := 77, pos := "parse.go:100", after := #[], guard := none }) (v := ?_) rfl (Or.inl ⟨by rfl, ?_⟩) HHeld.out ?_
                rotate_left
                · intro w hSw; clear hSw; go_simp; try with_reducible rfl
                try simp only [pu, pn, s1, s2, s3]
                refine wT (i := 7) (oi := { dst := some 23, op := Op.move (Operand.tmp 5), type := 83, pos := "parse.go:100", after := #[], guard := none }) (v := ?_) rfl (Or.inl ⟨by rfl, ?_⟩) HHeld.out ?_
                rotate_left
                · intro w hSw; clear hSw; go_simp; try with_reducible rfl
                try simp only [pu, pn, s1, s2, s3]
                refine wpAnyH_ready (rs := [5, 8]) (by kernel_rfl) (by simp) ?_
                refine AllReadyH.cons (o := { dst := some 21, op := Op.load 43 (Operand.tmp 20), type := 43, pos := "parse.go:100", after := #[{ on := 4, ground := Ground.data }], guard := none }) rfl (fun K hK => ?_) (AllReadyH.cons (o := { dst := some 24, op := Op.call { callee := Callee.value (Operand.func 64), args := #[Operand.tmp 22, Operand.tmp 23], argTypes := #[77, 83] }, type := 47, pos := "parse.go:100", after := #[{ on := 6, ground := Ground.data }, { on := 7, ground := Ground.data }], guard := none }) rfl (fun K hK => ?_) AllReadyH.nil)
                · have hcc := (show w3.drew.cell? ⟨bH, p, none⟩ = _ from HCELL.out)
                  go_simp
                  clear hcc
                  refine hK.out _ _ ?_ (fun hHeld => ?_)
                  · trivial
                  clear HHeld; have HHeld := Lib.hid hHeld; clear hHeld
                  clear hK K
                  try simp only [pu, pn, s1, s2, s3]
                  refine wpAnyH_ready (rs := [8]) (by kernel_rfl) (by simp) ?_
                  refine AllReadyH.cons (o := { dst := some 24, op := Op.call { callee := Callee.value (Operand.func 64), args := #[Operand.tmp 22, Operand.tmp 23], argTypes := #[77, 83] }, type := 47, pos := "parse.go:100", after := #[{ on := 6, ground := Ground.data }, { on := 7, ground := Ground.data }], guard := none }) rfl (fun K hK => ?_) AllReadyH.nil
                  go_simp
                  go_at_call 64; ((refine OP.out.mono ?_); rintro e v ⟨vv, rfl, ⟨Ab, cb, rfl, hrow9⟩, hrb9, cc⟩; have CV := Lib.hid (cc.cell (show w3.drew.cell? ⟨bH, p, none⟩ = some (.slice A1 xs.length c1) from HCELL.out) (by show ¬ bH = g; have := HFP.out.1; have := HGL.out; omega)); have CC := Lib.hid cc; have RB9 := Lib.hid hrb9; have W9 := Lib.hid hrow9; clear cc hrb9 hrow9)
                  simp only [OpV.v]
                  refine hK.out _ _ ?_ (fun hHeld => ?_)
                  · trivial
                  clear HHeld; have HHeld := Lib.hid hHeld; clear hHeld
                  clear hK K
                  try simp only [pu, pn, s1, s2, s3]
                  refine wpAnyH_ready (rs := [9]) (by kernel_rfl) (by simp) ?_
                  refine AllReadyH.cons (o := { dst := some 25, op := Op.buildSlice 43 1 #[(0, Operand.tmp 24)], type := 43, pos := "parse.go:100", after := #[{ on := 8, ground := Ground.data }], guard := none }) rfl (fun K hK => ?_) AllReadyH.nil
                  go_simp
                  refine hK.out _ _ ?_ (fun hHeld => ?_)
                  · trivial
                  clear HHeld; have HHeld := Lib.hid hHeld; clear hHeld
                  clear hK K
                  try simp only [pu, pn, s1, s2, s3]
                  refine wpAnyH_ready (rs := [10]) (by kernel_rfl) (by simp) ?_
                  refine AllReadyH.cons (o := { dst := some 26, op := Op.call { callee := Callee.builtin Builtin.append, args := #[Operand.tmp 21, Operand.tmp 25], argTypes := #[43, 43] }, type := 43, pos := "parse.go:100", after := #[{ on := 5, ground := Ground.data }, { on := 9, ground := Ground.data }, { on := 8, ground := Ground.chain }], guard := none }) rfl (fun K hK => ?_) AllReadyH.nil
                  have GD := Lib.hid ((HGOOD.out.chg ((Chg.refl (fun x => x = g) w3).drew.then CC.out) HGL.out).later (alb v (.cells #[.int .u8 ov.k, .string ov.key, .string ov.too, .int .i64 ov.n, .slice Ab ov.ms.length cb] 47)))
                  have HXS := Lib.hid (show xs.length ≤ 1000000 by have h1 := HGOOD.out.ops.1; have := HZ.out os (by rw [HHS.out.1]; simp); omega)
                  have SV := Lib.hid (show w3.heap.size ≤ v.heap.size from CC.out.size)
                  have BV := Lib.hid (show w.heap.size ≤ (v.alloc (.cells #[.int .u8 ov.k, .string ov.key, .string ov.too, .int .i64 ov.n, .slice Ab ov.ms.length cb] 47)).heap.size by have := C3.out.size; have := SV.out; simp only [World.size_alloc]; omega)
                  refine RE.step_put EO _ rfl (.tmp 21) (.tmp 25) rfl (base := w.heap.size) A1 xs.length c1 xs (some ⟨v.heap.size, 0, none⟩) 1 1 [⟨ov.k, ov.key, ov.too, ov.n, Ab, ov.ms.length, cb⟩] (by simp [Act.eval, Act.put]) (by simp [Act.eval, Act.put]) GD.out.row rfl (HXS.out) BV.out rfl (by omega) (RE.Rd.lit (E := EO) v 47 [⟨ov.k, ov.key, ov.too, ov.n, Ab, ov.ms.length, cb⟩] #[.int .u8 ov.k, .string ov.key, .string ov.too, .int .i64 ov.n, .slice Ab ov.ms.length cb] rfl) ?_
                  intro A5 c5 w5 r1 r2 r3
                  have R5 := Lib.hid r1; have Q5 := Lib.hid r2; have F5 := Lib.hid r3; clear r1 r2 r3
                  have HR5 := Lib.hid ((((HROW.out.chgG ((Chg.refl (fun x => x = g) w3).drew.then CC.out) HGL.out).later (alb v (.cells #[.int .u8 ov.k, .string ov.key, .string ov.too, .int .i64 ov.n, .slice Ab ov.ms.length cb] 47))).kept Q5.out (.inr (fun e => HGOOD.out.ne bH (by rw [← e]; exact HFP.out.2.2) HFP.out.2.2))))
                  refine hK.out _ _ ?_ (fun hHeld => ?_)
                  · trivial
                  clear HHeld; have HHeld := Lib.hid hHeld; clear hHeld
                  clear hK K
                  try simp only [pu, pn, s1, s2, s3]
                  refine wT (i := 11) (oi := { dst := some 27, op := Op.indexAddr 24 (Operand.tmp 16) (Operand.tmp 17), type := 0, pos := "parse.go:100", after := #[{ on := 0, ground := Ground.data }, { on := 1, ground := Ground.data }, { on := 0, ground := Ground.phase }, { on := 1, ground := Ground.phase }, { on := 2, ground := Ground.phase }, { on := 3, ground := Ground.phase }, { on := 4, ground := Ground.phase }, { on := 5, ground := Ground.phase }, { on := 6, ground := Ground.phase }, { on := 7, ground := Ground.phase }, { on := 8, ground := Ground.phase }, { on := 9, ground := Ground.phase }, { on := 10, ground := Ground.phase }], guard := none }) (v := ?_) rfl (Or.inl ⟨by rfl, ?_⟩) HHeld.out ?_
                  rotate_left
                  · intro w hSw; clear hSw; go_simp; try with_reducible rfl
                  try simp only [pu, pn, s1, s2, s3]
                  refine wpAnyH_ready (rs := [12]) (by kernel_rfl) (by simp) ?_
                  refine AllReadyH.cons (o := { dst := none, op := Op.store 43 (Operand.tmp 27) (Operand.tmp 26), type := 0, pos := "parse.go:100", after := #[{ on := 11, ground := Ground.data }, { on := 10, ground := Ground.data }, { on := 10, ground := Ground.chain }, { on := 0, ground := Ground.phase }, { on := 1, ground := Ground.phase }, { on := 2, ground := Ground.phase }, { on := 3, ground := Ground.phase }, { on := 4, ground := Ground.phase }, { on := 5, ground := Ground.phase }, { on := 6, ground := Ground.phase }, { on := 7, ground := Ground.phase }, { on := 8, ground := Ground.phase }, { on := 9, ground := Ground.phase }, { on := 10, ground := Ground.phase }], guard := none }) rfl (fun K hK => ?_) AllReadyH.nil
                  obtain ⟨cur, hcur⟩ := eh_heap HR5.out rfl (by rw [HHS.out.2.2.2]; have := HM2.out; omega)
                  have f0 : w5.frozen? ⟨bH, p, none⟩ = false := froh hcur
                  obtain ⟨v0, hv0⟩ : ∃ v0, w5.cell? ⟨bH, p, none⟩ = some v0 := by
                    have hx : hs[p]? = some ⟨A1, xs.length, c1⟩ := by rw [HHS.out.2.1, ← HHS.out.2.2.1]; simp
                    have q := (HR5.out.rd.at hx).2 0 (.slice A1 xs.length c1) rfl
                    exact ⟨_, by simpa [EH] using q⟩
                  go_simp
                  clear hcur f0 hv0 v0 cur
                  refine hK.out _ _ ?_ (fun hHeld => ?_)
                  · trivial
                  clear HHeld; have HHeld := Lib.hid hHeld; clear hHeld
                  clear hK K
                  try simp only [pu, pn, s1, s2, s3]
                  refine wpAnyH_done (by kernel_rfl) ?_ _
                  clear HHeld
                  have ZH := Lib.hid (eh_set HR5.out rfl (i := p) (by rw [HHS.out.2.2.2]; have := HM2.out; omega) ⟨A5, xs.length + 1, c5⟩)
                  have C6 := Lib.hid (show Chg (fun y => RE.fp (some ⟨bH, 0, none⟩) c = some y) w5 (w5.setCell ⟨bH, p, none⟩ (.slice A5 (xs.length + 1) c5)) from Chg.set _ _ HFP.out.2.2)
                  obtain ⟨WF, hWF⟩ : ∃ WF, WF = w5.setCell ⟨bH, p, none⟩ (.slice A5 (xs.length + 1) c5) := ⟨_, rfl⟩
                  rw [← hWF] at ZH C6 ⊢
                  clear hWF
                  have B6 := Lib.hid (show Chg (fun x => x = g) w WF from (((C3.out.drew.then CC.out).later (alb v (.cells #[.int .u8 ov.k, .string ov.key, .string ov.too, .int .i64 ov.n, .slice Ab ov.ms.length cb] 47))).thenB (RE.Row.below (lo := w.heap.size) Q5.out GD.out.row (Nat.le_refl _) BV.out)).trans C6.out (fun x e => .inr (by have e2 := HFP.out.2.2; rw [e2] at e; have := Option.some.inj e; have := HFP.out.1; omega)))
                  have RBF := Lib.hid (show RB WF g u9 l9 from C6.out.keep (show w5.heap[g]? = _ from ((RE.Row.below (lo := w.heap.size) Q5.out GD.out.row (Nat.le_refl _) BV.out).block g HGL.out).trans (keep_bel (alb v (.cells #[.int .u8 ov.k, .string ov.key, .string ov.too, .int .i64 ov.n, .slice Ab ov.ms.length cb] 47)) RB9.out)) (by intro e; have e2 := HFP.out.2.2; rw [e2] at e; have := Option.some.inj e; have := HFP.out.1; have := HGL.out; omega))
                  have hd : ∀ x, DD w.heap.size (RE.fp (some ⟨bH, 0, none⟩) c) (RE.fp A1 c1) x → x < w3.heap.size := fun x e => by
                    rcases e with e | e | e
                    · have := C3.out.size; omega
                    · rw [HFP.out.2.2] at e; have := Option.some.inj e; have := HFP.out.2.1; omega
                    · exact (HGOOD.out.row.fp_lt e).2
                  have OPX : OpR (v.alloc (.cells #[.int .u8 ov.k, .string ov.key, .string ov.too, .int .i64 ov.n, .slice Ab ov.ms.length cb] 47)) (DD w.heap.size (RE.fp (some ⟨bH, 0, none⟩) c) (RE.fp A1 c1)) ⟨ov.k, ov.key, ov.too, ov.n, Ab, ov.ms.length, cb⟩ ov := ⟨rfl, rfl, rfl, rfl, rfl, (W9.out.later (alb v (.cells #[.int .u8 ov.k, .string ov.key, .string ov.too, .int .i64 ov.n, .slice Ab ov.ms.length cb] 47))).rdD (fun x hx hb _ e => by have h9 := hd x e; have : w3.heap.size ≤ x := hb; omega)⟩
                  have GF := good_put GD.out OPX Q5.out F5.out R5.out (fun b e => by rw [HFP.out.2.2] at e; have := Option.some.inj e; have := HFP.out.2.1; have := SV.out; simp only [World.size_alloc]; omega) C6.out
                  obtain ⟨e1, e2, e3, e4⟩ := HHS.out
                  have RRF : RR WF w.heap.size g (some ⟨bH, 0, none⟩) m2 c (addLast acc ov) := by
                    refine ⟨hs.set p ⟨A5, xs.length + 1, c5⟩, by rw [List.length_set, e4], ?_, ZH.out, row_fp_lt ZH.out, .inr ⟨pre, os ++ [ov], hp, A5, c5, xs ++ [⟨ov.k, ov.key, ov.too, ov.n, Ab, ov.ms.length, cb⟩], by rw [e1, addLast_eq], ?_, GF⟩⟩
                    · rw [e1, addLast_eq]; have := HRR2.out.len; rw [e1] at this; simpa using this
                    · rw [e2, ← e3]; simp
                  have HZF := Lib.hid (show ∀ rw ∈ addLast acc ov, rw.length + u9.size ≤ 1000000 from fun rw h => by
                    have h1 := HLE.out; have h2 := HNF.out; have h3 := HU.out
                    rw [e1, addLast_eq] at h
                    rcases List.mem_append.1 h with h | h
                    · have := HZ.out rw (by rw [e1]; exact List.mem_append.2 (.inl h)); omega
                    · simp at h; subst h
                      have := HZ.out os (by rw [e1]; simp)
                      rw [List.length_append]; simp only [List.length_cons, List.length_nil]; omega)
                  go_wp2
                  exact ⟨⟨f, u9, l9, addLast acc ov, some ⟨bH, 0, none⟩, m2, c, rfl, HF2, Lib.hid RRF, RBF, Lib.hid (by have h1 := HLE.out; have h2 := HNF.out; have h3 := HU.out; omega), HZF, B6.out⟩, by rw [RBF.out.sz, HRB.out.sz]; have h1 := HLE.out; have h2 := HNF.out; omega⟩
                · go_simp
                  go_at_call 64; ((refine OP.out.mono ?_); rintro e v ⟨vv, rfl, ⟨Ab, cb, rfl, hrow9⟩, hrb9, cc⟩; have CV := Lib.hid (cc.cell (show w3.drew.cell? ⟨bH, p, none⟩ = some (.slice A1 xs.length c1) from HCELL.out) (by show ¬ bH = g; have := HFP.out.1; have := HGL.out; omega)); have CC := Lib.hid cc; have RB9 := Lib.hid hrb9; have W9 := Lib.hid hrow9; clear cc hrb9 hrow9)
                  simp only [OpV.v]
                  refine hK.out _ _ ?_ (fun hHeld => ?_)
                  · trivial
                  clear HHeld; have HHeld := Lib.hid hHeld; clear hHeld
                  clear hK K
                  try simp only [pu, pn, s1, s2, s3]
                  refine wpAnyH_ready (rs := [5, 9]) (by kernel_rfl) (by simp) ?_
                  refine AllReadyH.cons (o := { dst := some 21, op := Op.load 43 (Operand.tmp 20), type := 43, pos := "parse.go:100", after := #[{ on := 4, ground := Ground.data }], guard := none }) rfl (fun K hK => ?_) (AllReadyH.cons (o := { dst := some 25, op := Op.buildSlice 43 1 #[(0, Operand.tmp 24)], type := 43, pos := "parse.go:100", after := #[{ on := 8, ground := Ground.data }], guard := none }) rfl (fun K hK => ?_) AllReadyH.nil)
                  · have hcc := CV.out
                    go_simp
                    clear hcc
                    refine hK.out _ _ ?_ (fun hHeld => ?_)
                    · trivial
                    clear HHeld; have HHeld := Lib.hid hHeld; clear hHeld
                    clear hK K
                    try simp only [pu, pn, s1, s2, s3]
                    refine wpAnyH_ready (rs := [9]) (by kernel_rfl) (by simp) ?_
                    refine AllReadyH.cons (o := { dst := some 25, op := Op.buildSlice 43 1 #[(0, Operand.tmp 24)], type := 43, pos := "parse.go:100", after := #[{ on := 8, ground := Ground.data }], guard := none }) rfl (fun K hK => ?_) AllReadyH.nil
                    go_simp
                    refine hK.out _ _ ?_ (fun hHeld => ?_)
                    · trivial
                    clear HHeld; have HHeld := Lib.hid hHeld; clear hHeld
                    clear hK K
                    try simp only [pu, pn, s1, s2, s3]
                    refine wpAnyH_ready (rs := [10]) (by kernel_rfl) (by simp) ?_
                    refine AllReadyH.cons (o := { dst := some 26, op := Op.call { callee := Callee.builtin Builtin.append, args := #[Operand.tmp 21, Operand.tmp 25], argTypes := #[43, 43] }, type := 43, pos := "parse.go:100", after := #[{ on := 5, ground := Ground.data }, { on := 9, ground := Ground.data }, { on := 8, ground := Ground.chain }], guard := none }) rfl (fun K hK => ?_) AllReadyH.nil
                    have GD := Lib.hid ((HGOOD.out.chg ((Chg.refl (fun x => x = g) w3).drew.then CC.out) HGL.out).later (alb v (.cells #[.int .u8 ov.k, .string ov.key, .string ov.too, .int .i64 ov.n, .slice Ab ov.ms.length cb] 47)))
                    have HXS := Lib.hid (show xs.length ≤ 1000000 by have h1 := HGOOD.out.ops.1; have := HZ.out os (by rw [HHS.out.1]; simp); omega)
                    have SV := Lib.hid (show w3.heap.size ≤ v.heap.size from CC.out.size)
                    have BV := Lib.hid (show w.heap.size ≤ (v.alloc (.cells #[.int .u8 ov.k, .string ov.key, .string ov.too, .int .i64 ov.n, .slice Ab ov.ms.length cb] 47)).heap.size by have := C3.out.size; have := SV.out; simp only [World.size_alloc]; omega)
                    refine RE.step_put EO _ rfl (.tmp 21) (.tmp 25) rfl (base := w.heap.size) A1 xs.length c1 xs (some ⟨v.heap.size, 0, none⟩) 1 1 [⟨ov.k, ov.key, ov.too, ov.n, Ab, ov.ms.length, cb⟩] (by simp [Act.eval, Act.put]) (by simp [Act.eval, Act.put]) GD.out.row rfl (HXS.out) BV.out rfl (by omega) (RE.Rd.lit (E := EO) v 47 [⟨ov.k, ov.key, ov.too, ov.n, Ab, ov.ms.length, cb⟩] #[.int .u8 ov.k, .string ov.key, .string ov.too, .int .i64 ov.n, .slice Ab ov.ms.length cb] rfl) ?_
                    intro A5 c5 w5 r1 r2 r3
                    have R5 := Lib.hid r1; have Q5 := Lib.hid r2; have F5 := Lib.hid r3; clear r1 r2 r3
                    have HR5 := Lib.hid ((((HROW.out.chgG ((Chg.refl (fun x => x = g) w3).drew.then CC.out) HGL.out).later (alb v (.cells #[.int .u8 ov.k, .string ov.key, .string ov.too, .int .i64 ov.n, .slice Ab ov.ms.length cb] 47))).kept Q5.out (.inr (fun e => HGOOD.out.ne bH (by rw [← e]; exact HFP.out.2.2) HFP.out.2.2))))
                    refine hK.out _ _ ?_ (fun hHeld => ?_)
                    · trivial
                    clear HHeld; have HHeld := Lib.hid hHeld; clear hHeld
                    clear hK K
                    try simp only [pu, pn, s1, s2, s3]
                    refine wT (i := 11) (oi := { dst := some 27, op := Op.indexAddr 24 (Operand.tmp 16) (Operand.tmp 17), type := 0, pos := "parse.go:100", after := #[{ on := 0, ground := Ground.data }, { on := 1, ground := Ground.data }, { on := 0, ground := Ground.phase }, { on := 1, ground := Ground.phase }, { on := 2, ground := Ground.phase }, { on := 3, ground := Ground.phase }, { on := 4, ground := Ground.phase }, { on := 5, ground := Ground.phase }, { on := 6, ground := Ground.phase }, { on := 7, ground := Ground.phase }, { on := 8, ground := Ground.phase }, { on := 9, ground := Ground.phase }, { on := 10, ground := Ground.phase }], guard := none }) (v := ?_) rfl (Or.inl ⟨by rfl, ?_⟩) HHeld.out ?_
                    rotate_left
                    · intro w hSw; clear hSw; go_simp; try with_reducible rfl
                    try simp only [pu, pn, s1, s2, s3]
                    refine wpAnyH_ready (rs := [12]) (by kernel_rfl) (by simp) ?_
                    refine AllReadyH.cons (o := { dst := none, op := Op.store 43 (Operand.tmp 27) (Operand.tmp 26), type := 0, pos := "parse.go:100", after := #[{ on := 11, ground := Ground.data }, { on := 10, ground := Ground.data }, { on := 10, ground := Ground.chain }, { on := 0, ground := Ground.phase }, { on := 1, ground := Ground.phase }, { on := 2, ground := Ground.phase }, { on := 3, ground := Ground.phase }, { on := 4, ground := Ground.phase }, { on := 5, ground := Ground.phase }, { on := 6, ground := Ground.phase }, { on := 7, ground := Ground.phase }, { on := 8, ground := Ground.phase }, { on := 9, ground := Ground.phase }, { on := 10, ground := Ground.phase }], guard := none }) rfl (fun K hK => ?_) AllReadyH.nil
                    obtain ⟨cur, hcur⟩ := eh_heap HR5.out rfl (by rw [HHS.out.2.2.2]; have := HM2.out; omega)
                    have f0 : w5.frozen? ⟨bH, p, none⟩ = false := froh hcur
                    obtain ⟨v0, hv0⟩ : ∃ v0, w5.cell? ⟨bH, p, none⟩ = some v0 := by
                      have hx : hs[p]? = some ⟨A1, xs.length, c1⟩ := by rw [HHS.out.2.1, ← HHS.out.2.2.1]; simp
                      have q := (HR5.out.rd.at hx).2 0 (.slice A1 xs.length c1) rfl
                      exact ⟨_, by simpa [EH] using q⟩
                    go_simp
                    clear hcur f0 hv0 v0 cur
                    refine hK.out _ _ ?_ (fun hHeld => ?_)
                    · trivial
                    clear HHeld; have HHeld := Lib.hid hHeld; clear hHeld
                    clear hK K
                    try simp only [pu, pn, s1, s2, s3]
                    refine wpAnyH_done (by kernel_rfl) ?_ _
                    clear HHeld
                    have ZH := Lib.hid (eh_set HR5.out rfl (i := p) (by rw [HHS.out.2.2.2]; have := HM2.out; omega) ⟨A5, xs.length + 1, c5⟩)
                    have C6 := Lib.hid (show Chg (fun y => RE.fp (some ⟨bH, 0, none⟩) c = some y) w5 (w5.setCell ⟨bH, p, none⟩ (.slice A5 (xs.length + 1) c5)) from Chg.set _ _ HFP.out.2.2)
                    obtain ⟨WF, hWF⟩ : ∃ WF, WF = w5.setCell ⟨bH, p, none⟩ (.slice A5 (xs.length + 1) c5) := ⟨_, rfl⟩
                    rw [← hWF] at ZH C6 ⊢
                    clear hWF
                    have B6 := Lib.hid (show Chg (fun x => x = g) w WF from (((C3.out.drew.then CC.out).later (alb v (.cells #[.int .u8 ov.k, .string ov.key, .string ov.too, .int .i64 ov.n, .slice Ab ov.ms.length cb] 47))).thenB (RE.Row.below (lo := w.heap.size) Q5.out GD.out.row (Nat.le_refl _) BV.out)).trans C6.out (fun x e => .inr (by have e2 := HFP.out.2.2; rw [e2] at e; have := Option.some.inj e; have := HFP.out.1; omega)))
                    have RBF := Lib.hid (show RB WF g u9 l9 from C6.out.keep (show w5.heap[g]? = _ from ((RE.Row.below (lo := w.heap.size) Q5.out GD.out.row (Nat.le_refl _) BV.out).block g HGL.out).trans (keep_bel (alb v (.cells #[.int .u8 ov.k, .string ov.key, .string ov.too, .int .i64 ov.n, .slice Ab ov.ms.length cb] 47)) RB9.out)) (by intro e; have e2 := HFP.out.2.2; rw [e2] at e; have := Option.some.inj e; have := HFP.out.1; have := HGL.out; omega))
                    have hd : ∀ x, DD w.heap.size (RE.fp (some ⟨bH, 0, none⟩) c) (RE.fp A1 c1) x → x < w3.heap.size := fun x e => by
                      rcases e with e | e | e
                      · have := C3.out.size; omega
                      · rw [HFP.out.2.2] at e; have := Option.some.inj e; have := HFP.out.2.1; omega
                      · exact (HGOOD.out.row.fp_lt e).2
                    have OPX : OpR (v.alloc (.cells #[.int .u8 ov.k, .string ov.key, .string ov.too, .int .i64 ov.n, .slice Ab ov.ms.length cb] 47)) (DD w.heap.size (RE.fp (some ⟨bH, 0, none⟩) c) (RE.fp A1 c1)) ⟨ov.k, ov.key, ov.too, ov.n, Ab, ov.ms.length, cb⟩ ov := ⟨rfl, rfl, rfl, rfl, rfl, (W9.out.later (alb v (.cells #[.int .u8 ov.k, .string ov.key, .string ov.too, .int .i64 ov.n, .slice Ab ov.ms.length cb] 47))).rdD (fun x hx hb _ e => by have h9 := hd x e; have : w3.heap.size ≤ x := hb; omega)⟩
                    have GF := good_put GD.out OPX Q5.out F5.out R5.out (fun b e => by rw [HFP.out.2.2] at e; have := Option.some.inj e; have := HFP.out.2.1; have := SV.out; simp only [World.size_alloc]; omega) C6.out
                    obtain ⟨e1, e2, e3, e4⟩ := HHS.out
                    have RRF : RR WF w.heap.size g (some ⟨bH, 0, none⟩) m2 c (addLast acc ov) := by
                      refine ⟨hs.set p ⟨A5, xs.length + 1, c5⟩, by rw [List.length_set, e4], ?_, ZH.out, row_fp_lt ZH.out, .inr ⟨pre, os ++ [ov], hp, A5, c5, xs ++ [⟨ov.k, ov.key, ov.too, ov.n, Ab, ov.ms.length, cb⟩], by rw [e1, addLast_eq], ?_, GF⟩⟩
                      · rw [e1, addLast_eq]; have := HRR2.out.len; rw [e1] at this; simpa using this
                      · rw [e2, ← e3]; simp
                    have HZF := Lib.hid (show ∀ rw ∈ addLast acc ov, rw.length + u9.size ≤ 1000000 from fun rw h => by
                      have h1 := HLE.out; have h2 := HNF.out; have h3 := HU.out
                      rw [e1, addLast_eq] at h
                      rcases List.mem_append.1 h with h | h
                      · have := HZ.out rw (by rw [e1]; exact List.mem_append.2 (.inl h)); omega
                      · simp at h; subst h
                        have := HZ.out os (by rw [e1]; simp)
                        rw [List.length_append]; simp only [List.length_cons, List.length_nil]; omega)
                    go_wp2
                    exact ⟨⟨f, u9, l9, addLast acc ov, some ⟨bH, 0, none⟩, m2, c, rfl, HF2, Lib.hid RRF, RBF, Lib.hid (by have h1 := HLE.out; have h2 := HNF.out; have h3 := HU.out; omega), HZF, B6.out⟩, by rw [RBF.out.sz, HRB.out.sz]; have h1 := HLE.out; have h2 := HNF.out; omega⟩
                  · go_simp
                    refine hK.out _ _ ?_ (fun hHeld => ?_)
                    · trivial
                    clear HHeld; have HHeld := Lib.hid hHeld; clear hHeld
                    clear hK K
                    try simp only [pu, pn, s1, s2, s3]
                    refine wpAnyH_ready (rs := [5]) (by kernel_rfl) (by simp) ?_
                    refine AllReadyH.cons (o := { dst := some 21, op := Op.load 43 (Operand.tmp 20), type := 43, pos := "parse.go:100", after := #[{ on := 4, ground := Ground.data }], guard := none }) rfl (fun K hK => ?_) AllReadyH.nil
                    have hcc := (bel_later (alb v (.cells #[.int .u8 ov.k, .string ov.key, .string ov.too, .int .i64 ov.n, .slice Ab ov.ms.length cb] 47)) CV.out)
                    go_simp
                    clear hcc
                    refine hK.out _ _ ?_ (fun hHeld => ?_)
                    · trivial
                    clear HHeld; have HHeld := Lib.hid hHeld; clear hHeld
                    clear hK K
                    try simp only [pu, pn, s1, s2, s3]
                    refine wpAnyH_ready (rs := [10]) (by kernel_rfl) (by simp) ?_
                    refine AllReadyH.cons (o := { dst := some 26, op := Op.call { callee := Callee.builtin Builtin.append, args := #[Operand.tmp 21, Operand.tmp 25], argTypes := #[43, 43] }, type := 43, pos := "parse.go:100", after := #[{ on := 5, ground := Ground.data }, { on := 9, ground := Ground.data }, { on := 8, ground := Ground.chain }], guard := none }) rfl (fun K hK => ?_) AllReadyH.nil
                    have GD := Lib.hid ((HGOOD.out.chg ((Chg.refl (fun x => x = g) w3).drew.then CC.out) HGL.out).later (alb v (.cells #[.int .u8 ov.k, .string ov.key, .string ov.too, .int .i64 ov.n, .slice Ab ov.ms.length cb] 47)))
                    have HXS := Lib.hid (show xs.length ≤ 1000000 by have h1 := HGOOD.out.ops.1; have := HZ.out os (by rw [HHS.out.1]; simp); omega)
                    have SV := Lib.hid (show w3.heap.size ≤ v.heap.size from CC.out.size)
                    have BV := Lib.hid (show w.heap.size ≤ (v.alloc (.cells #[.int .u8 ov.k, .string ov.key, .string ov.too, .int .i64 ov.n, .slice Ab ov.ms.length cb] 47)).heap.size by have := C3.out.size; have := SV.out; simp only [World.size_alloc]; omega)
                    refine RE.step_put EO _ rfl (.tmp 21) (.tmp 25) rfl (base := w.heap.size) A1 xs.length c1 xs (some ⟨v.heap.size, 0, none⟩) 1 1 [⟨ov.k, ov.key, ov.too, ov.n, Ab, ov.ms.length, cb⟩] (by simp [Act.eval, Act.put]) (by simp [Act.eval, Act.put]) GD.out.row rfl (HXS.out) BV.out rfl (by omega) (RE.Rd.lit (E := EO) v 47 [⟨ov.k, ov.key, ov.too, ov.n, Ab, ov.ms.length, cb⟩] #[.int .u8 ov.k, .string ov.key, .string ov.too, .int .i64 ov.n, .slice Ab ov.ms.length cb] rfl) ?_
                    intro A5 c5 w5 r1 r2 r3
                    have R5 := Lib.hid r1; have Q5 := Lib.hid r2; have F5 := Lib.hid r3; clear r1 r2 r3
                    have HR5 := Lib.hid ((((HROW.out.chgG ((Chg.refl (fun x => x = g) w3).drew.then CC.out) HGL.out).later (alb v (.cells #[.int .u8 ov.k, .string ov.key, .string ov.too, .int .i64 ov.n, .slice Ab ov.ms.length cb] 47))).kept Q5.out (.inr (fun e => HGOOD.out.ne bH (by rw [← e]; exact HFP.out.2.2) HFP.out.2.2))))
                    refine hK.out _ _ ?_ (fun hHeld => ?_)
                    · trivial
                    clear HHeld; have HHeld := Lib.hid hHeld; clear hHeld
                    clear hK K
                    try simp only [pu, pn, s1, s2, s3]
                    refine wT (i := 11) (oi := { dst := some 27, op := Op.indexAddr 24 (Operand.tmp 16) (Operand.tmp 17), type := 0, pos := "parse.go:100", after := #[{ on := 0, ground := Ground.data }, { on := 1, ground := Ground.data }, { on := 0, ground := Ground.phase }, { on := 1, ground := Ground.phase }, { on := 2, ground := Ground.phase }, { on := 3, ground := Ground.phase }, { on := 4, ground := Ground.phase }, { on := 5, ground := Ground.phase }, { on := 6, ground := Ground.phase }, { on := 7, ground := Ground.phase }, { on := 8, ground := Ground.phase }, { on := 9, ground := Ground.phase }, { on := 10, ground := Ground.phase }], guard := none }) (v := ?_) rfl (Or.inl ⟨by rfl, ?_⟩) HHeld.out ?_
                    rotate_left
                    · intro w hSw; clear hSw; go_simp; try with_reducible rfl
                    try simp only [pu, pn, s1, s2, s3]
                    refine wpAnyH_ready (rs := [12]) (by kernel_rfl) (by simp) ?_
                    refine AllReadyH.cons (o := { dst := none, op := Op.store 43 (Operand.tmp 27) (Operand.tmp 26), type := 0, pos := "parse.go:100", after := #[{ on := 11, ground := Ground.data }, { on := 10, ground := Ground.data }, { on := 10, ground := Ground.chain }, { on := 0, ground := Ground.phase }, { on := 1, ground := Ground.phase }, { on := 2, ground := Ground.phase }, { on := 3, ground := Ground.phase }, { on := 4, ground := Ground.phase }, { on := 5, ground := Ground.phase }, { on := 6, ground := Ground.phase }, { on := 7, ground := Ground.phase }, { on := 8, ground := Ground.phase }, { on := 9, ground := Ground.phase }, { on := 10, ground := Ground.phase }], guard := none }) rfl (fun K hK => ?_) AllReadyH.nil
                    obtain ⟨cur, hcur⟩ := eh_heap HR5.out rfl (by rw [HHS.out.2.2.2]; have := HM2.out; omega)
                    have f0 : w5.frozen? ⟨bH, p, none⟩ = false := froh hcur
                    obtain ⟨v0, hv0⟩ : ∃ v0, w5.cell? ⟨bH, p, none⟩ = some v0 := by
                      have hx : hs[p]? = some ⟨A1, xs.length, c1⟩ := by rw [HHS.out.2.1, ← HHS.out.2.2.1]; simp
                      have q := (HR5.out.rd.at hx).2 0 (.slice A1 xs.length c1) rfl
                      exact ⟨_, by simpa [EH] using q⟩
                    go_simp
                    clear hcur f0 hv0 v0 cur
                    refine hK.out _ _ ?_ (fun hHeld => ?_)
                    · trivial
                    clear HHeld; have HHeld := Lib.hid hHeld; clear hHeld
                    clear hK K
                    try simp only [pu, pn, s1, s2, s3]
                    refine wpAnyH_done (by kernel_rfl) ?_ _
                    clear HHeld
                    have ZH := Lib.hid (eh_set HR5.out rfl (i := p) (by rw [HHS.out.2.2.2]; have := HM2.out; omega) ⟨A5, xs.length + 1, c5⟩)
                    have C6 := Lib.hid (show Chg (fun y => RE.fp (some ⟨bH, 0, none⟩) c = some y) w5 (w5.setCell ⟨bH, p, none⟩ (.slice A5 (xs.length + 1) c5)) from Chg.set _ _ HFP.out.2.2)
                    obtain ⟨WF, hWF⟩ : ∃ WF, WF = w5.setCell ⟨bH, p, none⟩ (.slice A5 (xs.length + 1) c5) := ⟨_, rfl⟩
                    rw [← hWF] at ZH C6 ⊢
                    clear hWF
                    have B6 := Lib.hid (show Chg (fun x => x = g) w WF from (((C3.out.drew.then CC.out).later (alb v (.cells #[.int .u8 ov.k, .string ov.key, .string ov.too, .int .i64 ov.n, .slice Ab ov.ms.length cb] 47))).thenB (RE.Row.below (lo := w.heap.size) Q5.out GD.out.row (Nat.le_refl _) BV.out)).trans C6.out (fun x e => .inr (by have e2 := HFP.out.2.2; rw [e2] at e; have := Option.some.inj e; have := HFP.out.1; omega)))
                    have RBF := Lib.hid (show RB WF g u9 l9 from C6.out.keep (show w5.heap[g]? = _ from ((RE.Row.below (lo := w.heap.size) Q5.out GD.out.row (Nat.le_refl _) BV.out).block g HGL.out).trans (keep_bel (alb v (.cells #[.int .u8 ov.k, .string ov.key, .string ov.too, .int .i64 ov.n, .slice Ab ov.ms.length cb] 47)) RB9.out)) (by intro e; have e2 := HFP.out.2.2; rw [e2] at e; have := Option.some.inj e; have := HFP.out.1; have := HGL.out; omega))
                    have hd : ∀ x, DD w.heap.size (RE.fp (some ⟨bH, 0, none⟩) c) (RE.fp A1 c1) x → x < w3.heap.size := fun x e => by
                      rcases e with e | e | e
                      · have := C3.out.size; omega
                      · rw [HFP.out.2.2] at e; have := Option.some.inj e; have := HFP.out.2.1; omega
                      · exact (HGOOD.out.row.fp_lt e).2
                    have OPX : OpR (v.alloc (.cells #[.int .u8 ov.k, .string ov.key, .string ov.too, .int .i64 ov.n, .slice Ab ov.ms.length cb] 47)) (DD w.heap.size (RE.fp (some ⟨bH, 0, none⟩) c) (RE.fp A1 c1)) ⟨ov.k, ov.key, ov.too, ov.n, Ab, ov.ms.length, cb⟩ ov := ⟨rfl, rfl, rfl, rfl, rfl, (W9.out.later (alb v (.cells #[.int .u8 ov.k, .string ov.key, .string ov.too, .int .i64 ov.n, .slice Ab ov.ms.length cb] 47))).rdD (fun x hx hb _ e => by have h9 := hd x e; have : w3.heap.size ≤ x := hb; omega)⟩
                    have GF := good_put GD.out OPX Q5.out F5.out R5.out (fun b e => by rw [HFP.out.2.2] at e; have := Option.some.inj e; have := HFP.out.2.1; have := SV.out; simp only [World.size_alloc]; omega) C6.out
                    obtain ⟨e1, e2, e3, e4⟩ := HHS.out
                    have RRF : RR WF w.heap.size g (some ⟨bH, 0, none⟩) m2 c (addLast acc ov) := by
                      refine ⟨hs.set p ⟨A5, xs.length + 1, c5⟩, by rw [List.length_set, e4], ?_, ZH.out, row_fp_lt ZH.out, .inr ⟨pre, os ++ [ov], hp, A5, c5, xs ++ [⟨ov.k, ov.key, ov.too, ov.n, Ab, ov.ms.length, cb⟩], by rw [e1, addLast_eq], ?_, GF⟩⟩
                      · rw [e1, addLast_eq]; have := HRR2.out.len; rw [e1] at this; simpa using this
                      · rw [e2, ← e3]; simp
                    have HZF := Lib.hid (show ∀ rw ∈ addLast acc ov, rw.length + u9.size ≤ 1000000 from fun rw h => by
                      have h1 := HLE.out; have h2 := HNF.out; have h3 := HU.out
                      rw [e1, addLast_eq] at h
                      rcases List.mem_append.1 h with h | h
                      · have := HZ.out rw (by rw [e1]; exact List.mem_append.2 (.inl h)); omega
                      · simp at h; subst h
                        have := HZ.out os (by rw [e1]; simp)
                        rw [List.length_append]; simp only [List.length_cons, List.length_nil]; omega)
                    go_wp2
                    exact ⟨⟨f, u9, l9, addLast acc ov, some ⟨bH, 0, none⟩, m2, c, rfl, HF2, Lib.hid RRF, RBF, Lib.hid (by have h1 := HLE.out; have h2 := HNF.out; have h3 := HU.out; omega), HZF, B6.out⟩, by rw [RBF.out.sz, HRB.out.sz]; have h1 := HLE.out; have h2 := HNF.out; omega⟩
end Go.Proofs.YtelpkajlejbbgaaGreatDoor
