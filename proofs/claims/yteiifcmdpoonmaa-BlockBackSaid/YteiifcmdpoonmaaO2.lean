/- BlockHalves. -/
import Derived.Test.YteiifcmdpoonmaaO1
namespace Go.Proofs.Yteiifcmdpoonmaa
set_option linter.unusedSimpArgs false
open Go.RowKit Go.Maps Go.Shelf
set_option linter.unusedVariables false
theorem wpList_gput_row (w : World) {ops : Array Oper} {rest : List Oper} {o : Oper} {a : Act} {Q : Exit → Act → World → Prop} (hw : Region.wanted o (yielded ops a.tmps) = true) (s x : Operand)
    (hop : o.op = Op.call { callee := Callee.builtin Builtin.append, args := #[s, x], argTypes := #[22, 22] }) {base : Nat} (A0 : Option Addr) (n0 c0 : Nat) (l0 : List TT) (A : Option Addr) (m c : Nat) (l : List TT) (hs : a.eval s = .slice A0 n0 c0) (hx : a.eval x = .slice A m c)
    (h : Row w base A0 l0 c0) (hn0 : l0.length = n0) (hn : n0 ≤ 1000000) (hb : base ≤ w.heap.size) (hl : l.length = m) (hm : m ≤ 1000000) (hr : RdT w A l)
    (hK : ∀ A' c' w', Row w' base A' (l0 ++ l) c' → w.grownBy w' (fpr A0 c0) → (fpr A' c' = none ∨ fpr A' c' = fpr A0 c0 ∨ fpr A' c' = some w.heap.size) → wpList Try.prog ops Q rest (a.put o.dst (.slice A' (n0 + m) c')) w') :
    wpList Try.prog ops Q (o :: rest) a w := by
  subst hn0 hl
  refine wpList_step fun K' hK' => ?_
  rw [if_pos hw]
  obtain ⟨A', c', w', hrun, r1, r2, r3⟩ := put_row h hn hb A c l hm hr o.type
  unfold Oper.wp
  simp [execOp, hop, resolve, invoke, builtin, hs, hx, hrun, Result.andThen]
  exact hK' _ _ (hK A' c' w' r1 r2 r3)
theorem rdt_grown {w w' : World} {row : Option Nat} {A : Option Addr} {l : List TT} {b : Nat} (h : RdT w A l) (hg : w.grownBy w' row) (hb : ∀ x, row = some x → b ≤ x) (ha : ∀ b' off, A = some ⟨b', off, none⟩ → l ≠ [] → b' < b) : RdT w' A l := by
  rcases h with h | ⟨b', off, rfl, hlt, hc⟩
  · exact .inl h
  · by_cases hz : l = []
    · subst hz; exact .inl rfl
    · refine .inr ⟨b', off, rfl, Nat.lt_of_lt_of_le hlt hg.size, fun j u hj => hg.cell (hc j u hj) (fun e => ?_)⟩
      have h1 := hb _ e.symm
      have h2 := ha b' off rfl hz
      simp only at h1
      omega
theorem rdt_low {w : World} {A : Option Addr} {l : List TT} (h : RdT w A l) : ∀ b off, A = some ⟨b, off, none⟩ → l ≠ [] → b < w.heap.size := by
  intro b off e hz
  rcases h with h | ⟨b', off', e2, hlt, _⟩
  · exact absurd (cls_empty h) hz
  · rw [e] at e2; cases e2; exact hlt
theorem row_new (w : World) : Row (w.alloc (.cells #[] 30)) w.heap.size (some ⟨w.heap.size, 0, none⟩) [] 0 := .inl ⟨rfl, rfl⟩
set_option maxHeartbeats 4000000 in
theorem halves_law (A : Option Addr) (len cap : Nat) (l : List TT) (w : World) (hl : l.length = len) (hc : len ≤ cap) (hm : cap ≤ maxLen) (hz : A = none → cap = 0) (hR : RdT w A l) :
    Calls Try.prog 3 #[.slice A len cap] w fun e w' => e = .returned (.bool true) ∧ Below w.heap.size w w' := by
  obtain ⟨n, hn⟩ : ∃ n, n = min len 40 := ⟨_, rfl⟩
  obtain ⟨xs, hxs⟩ : ∃ xs, xs = l.take n := ⟨_, rfl⟩
  have hxl : xs.length = n := by rw [hxs, List.length_take, hl]; omega
  have HX := Lib.hid (show RdT w A xs by rw [hxs]; exact rdt_take hR n)
  have FW := Lib.hid (few_any A len cap w hc hm)
  rw [← hn] at FW
  have hn40 : n ≤ 40 := by omega
  have hnc : n ≤ cap := by omega
  have RI := refRises_any A n cap xs w hxl (by omega) HX.out
  have HL := Lib.hid hxl
  have HV := Lib.hid (halves_any A n cap xs)
  have HZ := Lib.hid hz
  have HM := Lib.hid hm
  clear hl hc hm hz hR hn hxs hxl
  by_cases hr : ris xs
  · have RI : Hid (Calls Try.prog 7 #[.slice A n cap] w fun e w' => e = .returned (.bool true) ∧ Below w.heap.size w w') := Lib.hid (RI.mono (fun e w' h => by
      obtain ⟨⟨b, rfl, hb⟩, h2⟩ := h
      rw [hb.2 hr]; exact ⟨rfl, h2⟩))
    have q1 : (xs.take (n / 2)).length = n / 2 := by rw [List.length_take, HL.out]; omega
    have q2 : (xs.drop (n / 2)).length = n - n / 2 := by rw [List.length_drop, HL.out]
    obtain ⟨hf, hh⟩ : ∃ h, h = n / 2 := ⟨_, rfl⟩
    have q3 : ((n : Int) / 2) = (hf : Int) := by omega
    have q4 : hf ≤ n := by omega
    have HALF : Hid (∀ W, Below w.heap.size w W → Calls Try.prog 9 #[.slice A n cap] W fun e w' => ∃ A1 c1 A2 c2, e = .returned (.tuple #[.slice A1 hf c1, .slice A2 (n - hf) c2]) ∧ RdT w' A1 (xs.take hf) ∧ RdT w' A2 (xs.drop hf) ∧ Below W.heap.size W w') := Lib.hid (fun W hW => by
      have q := HV.out W HL.out (by omega) hnc HM.out HZ.out (rdt_later HX.out hW)
      refine q.mono ?_
      rintro e w' ⟨A1, c1, A2, c2, rfl, r1, r2, b⟩
      rw [q1, q2] at *
      rw [← hh] at *
      exact ⟨A1, c1, A2, c2, rfl, r1, r2, b⟩)
    rw [← hh] at q1 q2
    have Q1 := Lib.hid q1
    have Q2 := Lib.hid q2
    have q5 : ((hf : Int) + ((n - hf : Nat) : Int)) = (n : Int) := by omega
    have SAME : Hid (∀ W A6 c6, RdT W A6 (xs.take hf ++ xs.drop hf) → RdT W A xs → Calls Try.prog 10 #[.slice A6 n c6, .slice A n cap] W fun e w' => e = .returned (.bool true) ∧ Below W.heap.size W w') := Lib.hid (fun W A6 c6 h1 h2 => by
      rw [List.take_append_drop] at h1
      refine (same_any A6 A n n c6 cap xs xs W HL.out HL.out (by omega) (by omega) h1 h2).mono ?_
      rintro e w' ⟨⟨r, rfl, hr⟩, hb⟩
      rw [hr.2 rfl]; exact ⟨rfl, hb⟩)
    clear q1 q2 hh
    go_enter Try.func3, Try.ntmps3
    go_wp2_with (first
      | (go_at_call 6; ((with_reducible refine FW.out.mono ?_); rintro e w1 ⟨rfl, rfl⟩))
      | (go_at_call 7; ((with_reducible refine RI.out.mono ?_); rintro e w2 ⟨rfl, b2⟩; have B2 := Lib.hid b2; clear b2))
      | (go_at_call 9; ((with_reducible refine (HALF.out _ B2.out).mono ?_); rintro e w3 ⟨A1, c1, A2, c2, rfl, r1, r2, b3⟩; have R1 := Lib.hid r1; have R2 := Lib.hid r2; have B3 := Lib.hid (bel_trans B2.out b3); clear r1 r2 b3))
      | (go_at_call 8; ((with_reducible refine (live_any _).mono ?_); rintro e w4 ⟨rfl, b4⟩; have R3 := Lib.hid (rdt_later (rdt_later R1.out b4) (alb _ (.cells #[] 30))); have R4 := Lib.hid (rdt_later (rdt_later R2.out b4) (alb _ (.cells #[] 30))); have B4 := Lib.hid (bel_alloc (bel_trans B3.out b4) (.cells #[] 30)); have S4 := Lib.hid (bel_trans B3.out b4).size; clear b4))
      | (refine wpList_gput_row _ (by rfl) (.tmp 34) (.tmp 35) rfl (base := w4.heap.size) (some ⟨w4.heap.size, 0, none⟩) 0 0 [] A1 hf c1 (xs.take hf) rfl rfl (row_new w4) rfl (by omega) (by simp) Q1.out (by omega) R3.out ?_; intro A5 c5 w5 r5 g5 o5; have R5 := Lib.hid r5; have R6 := Lib.hid (rdt_grown R4.out g5 (fun x e => by simp [fpr] at e) (rdt_low R4.out)); have B5 := Lib.hid (B4.out.trans (Below.of_row g5 (row_new w4) S4.out (by simp))); have S5 := Lib.hid (show w4.heap.size ≤ w5.heap.size from Nat.le_trans (by simp) g5.size); clear r5 g5 o5)
      | (refine wpList_gput_row _ (by rfl) (.tmp 36) (.tmp 37) rfl (base := w4.heap.size) A5 hf c5 (xs.take hf) A2 (n - hf) c2 (xs.drop hf) rfl rfl R5.out Q1.out (by omega) S5.out Q2.out (by omega) R6.out ?_; intro A6 c6 w6 r6 g6 o6; have B6 := Lib.hid (B5.out.trans (Below.of_row g6 R5.out S4.out S5.out)); have R7 := Lib.hid r6.rd; have R8 := Lib.hid (rdt_later HX.out B6.out); clear r6 g6 o6)
      | (go_at_call 10; ((with_reducible refine (SAME.out _ _ _ R7.out R8.out).mono ?_)); rintro e w7 ⟨rfl, b7⟩; have B7 := Lib.hid (bel_trans B6.out b7); clear b7)
      | fail)
    go_ret
    exact ⟨rfl, B7.out⟩
  · have RI : Hid (Calls Try.prog 7 #[.slice A n cap] w fun e w' => e = .returned (.bool false) ∧ Below w.heap.size w w') := Lib.hid (RI.mono (fun e w' h => by
      obtain ⟨⟨b, rfl, hb⟩, h2⟩ := h
      cases b with
      | false => exact ⟨rfl, h2⟩
      | true => exact absurd (hb.1 rfl) hr))
    go_enter Try.func3, Try.ntmps3
    go_wp2_with (first
      | (go_at_call 6; ((with_reducible refine FW.out.mono ?_); rintro e w1 ⟨rfl, rfl⟩))
      | (go_at_call 7; ((with_reducible refine RI.out.mono ?_); rintro e w2 ⟨rfl, b2⟩; have B2 := Lib.hid b2; clear b2))
      | (go_at_call 8; ((with_reducible refine (live_any _).mono ?_); rintro e w4 ⟨rfl, b4⟩; have B4 := Lib.hid (bel_trans B2.out b4); clear b4))
      | fail)
    go_ret
    exact ⟨rfl, B4.out⟩
end Go.Proofs.Yteiifcmdpoonmaa
