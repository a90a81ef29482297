/- Texts of the proof, one behind the other. -/
import Derived.Test.YtilnpeekajnlhaaEk32
import Derived.Test.YtilnpeekajnlhaaEk26
set_option linter.unusedVariables false
set_option linter.unusedSimpArgs false
namespace Go.Proofs.Ytilnpeekajnlhaa
open Go.RowKit Go.Maps
set_option maxRecDepth 100000 in
set_option maxHeartbeats 8000000 in
theorem live_true (w : World) : Calls Try.prog 9 #[] w fun r w' => r = .returned (.bool true) ∧ Below w.heap.size w w' := by
  obtain ⟨V, hV⟩ : ∃ V, V = (((w.alloc (.cells #[.string jM] 9)).alloc (.cells #[.int .i64 5, .int .i64 6] 3)).alloc (.cells #[.int .u8 4, .int .i64 1, .string jA, .string jZ, .string emptyS, .int .u64 0, .int .u8 1, .int .i64 2, .string jB, .string emptyS, .string emptyS, .int .u64 0] 62)).alloc (NO 2 (.slice (some ⟨w.heap.size, 0, none⟩) 1 1) (.slice (some ⟨w.heap.size + 1, 0, none⟩) 2 2) (.slice (some ⟨w.heap.size + 1 + 1, 0, none⟩) 2 2) (.slice none 0 0)) := ⟨_, rfl⟩
  have b1 := alb w (.cells #[.string jM] 9)
  have b2 := alb (w.alloc (.cells #[.string jM] 9)) (.cells #[.int .i64 5, .int .i64 6] 3)
  have b3 := alb ((w.alloc (.cells #[.string jM] 9)).alloc (.cells #[.int .i64 5, .int .i64 6] 3)) (.cells #[.int .u8 4, .int .i64 1, .string jA, .string jZ, .string emptyS, .int .u64 0, .int .u8 1, .int .i64 2, .string jB, .string emptyS, .string emptyS, .int .u64 0] 62)
  have b4 := alb (((w.alloc (.cells #[.string jM] 9)).alloc (.cells #[.int .i64 5, .int .i64 6] 3)).alloc (.cells #[.int .u8 4, .int .i64 1, .string jA, .string jZ, .string emptyS, .int .u64 0, .int .u8 1, .int .i64 2, .string jB, .string emptyS, .string emptyS, .int .u64 0] 62)) (NO 2 (.slice (some ⟨w.heap.size, 0, none⟩) 1 1) (.slice (some ⟨w.heap.size + 1, 0, none⟩) 2 2) (.slice (some ⟨w.heap.size + 1 + 1, 0, none⟩) 2 2) (.slice none 0 0))
  have rP := RE.Rd.lit (E := ES) w 9 [jM] #[.string jM] rfl
  have rK := RE.Rd.lit (E := EI) (w.alloc (.cells #[.string jM] 9)) 3 [5, 6] #[.int .i64 5, .int .i64 6] rfl
  have rM := RE.Rd.lit (E := EG) ((w.alloc (.cells #[.string jM] 9)).alloc (.cells #[.int .i64 5, .int .i64 6] 3)) 62 [q1, q2] #[.int .u8 4, .int .i64 1, .string jA, .string jZ, .string emptyS, .int .u64 0, .int .u8 1, .int .i64 2, .string jB, .string emptyS, .string emptyS, .int .u64 0] rfl
  have hz := heap_alloc_new (((w.alloc (.cells #[.string jM] 9)).alloc (.cells #[.int .i64 5, .int .i64 6] 3)).alloc (.cells #[.int .u8 4, .int .i64 1, .string jA, .string jZ, .string emptyS, .int .u64 0, .int .u8 1, .int .i64 2, .string jB, .string emptyS, .string emptyS, .int .u64 0] 62)) (NO 2 (.slice (some ⟨w.heap.size, 0, none⟩) 1 1) (.slice (some ⟨w.heap.size + 1, 0, none⟩) 2 2) (.slice (some ⟨w.heap.size + 1 + 1, 0, none⟩) 2 2) (.slice none 0 0))
  simp only [World.size_alloc] at rK rM hz
  have hP : ES.Rd V (some ⟨w.heap.size, 0, none⟩) [jM] := by rw [hV]; exact rP.later (bel_trans (bel_trans b2 b3) b4)
  have hK : EI.Rd V (some ⟨w.heap.size + 1, 0, none⟩) [5, 6] := by rw [hV]; exact rK.later (bel_trans b3 b4)
  have hM : EG.Rd V (some ⟨w.heap.size + 1 + 1, 0, none⟩) [q1, q2] := by rw [hV]; exact rM.later b4
  have Z0 : V.heap[w.heap.size + 1 + 1 + 1]? = some (NO 2 (.slice (some ⟨w.heap.size, 0, none⟩) 1 1) (.slice (some ⟨w.heap.size + 1, 0, none⟩) 2 2) (.slice (some ⟨w.heap.size + 1 + 1, 0, none⟩) 2 2) (.slice none 0 0)) := by rw [hV]; exact hz
  have hb : Below w.heap.size w V := by rw [hV]; exact bel_trans (bel_trans (bel_trans b1 b2) b3) b4
  have AF : Hid (∀ W, Below V.heap.size V W → Calls Try.prog 18 #[NV 2 (.slice (some ⟨w.heap.size, 0, none⟩) 1 1) (.slice (some ⟨w.heap.size + 1, 0, none⟩) 2 2) (.slice (some ⟨w.heap.size + 1 + 1, 0, none⟩) 2 2) (.slice none 0 0), .agg #[.string emptyS, .string emptyS], .int .i64 0] W fun r w' => (∃ A' c', r = .returned (.slice A' 2 c') ∧ EG.Row w' W.heap.size A' [q3, q2] c') ∧ Below W.heap.size W w') := Lib.hid (fun W h => by
    have q := ifor_any 2 (some ⟨w.heap.size, 0, none⟩) (some ⟨w.heap.size + 1, 0, none⟩) (some ⟨w.heap.size + 1 + 1, 0, none⟩) none 1 1 2 2 2 2 0 0 jp [q1, q2] emptyS emptyS 0 W rfl (by omega) (es_rd.1 (hP.later h)) rfl rfl (by omega) (hM.later h) lv_ok
    rw [lv_kid] at q
    exact q)
  have AH : Hid (∀ W, Below V.heap.size V W → Calls Try.prog 35 #[NV 2 (.slice (some ⟨w.heap.size, 0, none⟩) 1 1) (.slice (some ⟨w.heap.size + 1, 0, none⟩) 2 2) (.slice (some ⟨w.heap.size + 1 + 1, 0, none⟩) 2 2) (.slice none 0 0), .agg #[.string emptyS, .string emptyS]] W fun r w' => r = .returned (.tuple #[.int .i64 0, .int .i64 35]) ∧ Below W.heap.size W w') := Lib.hid (fun W h => by
    have q := hot_any 2 (some ⟨w.heap.size, 0, none⟩) (some ⟨w.heap.size + 1, 0, none⟩) (some ⟨w.heap.size + 1 + 1, 0, none⟩) none 1 1 2 2 2 2 0 0 jp [q1, q2] emptyS emptyS W rfl (by omega) (es_rd.1 (hP.later h)) rfl (by omega) (by omega) (hM.later h) lv_ok lv_hok
    rw [lv_wgts, show ([35, 18] : List Int).length = 2 from rfl, lv_hot] at q
    exact q)
  have AK : Hid (∀ W, Below V.heap.size V W → Calls Try.prog 36 #[NV 2 (.slice (some ⟨w.heap.size, 0, none⟩) 1 1) (.slice (some ⟨w.heap.size + 1, 0, none⟩) 2 2) (.slice (some ⟨w.heap.size + 1 + 1, 0, none⟩) 2 2) (.slice none 0 0), .string jM] W fun r w' => r = .returned (.tuple #[.int .i64 1, .bool true]) ∧ Below W.heap.size W w') := Lib.hid (fun W h => by
    have q := kid_any 2 (some ⟨w.heap.size, 0, none⟩) (some ⟨w.heap.size + 1, 0, none⟩) (some ⟨w.heap.size + 1 + 1, 0, none⟩) none 1 1 2 2 2 2 0 0 jp jM W rfl (by omega) (es_rd.1 (hP.later h)) rfl
    rw [lv_prt] at q
    exact q)
  have AR : Hid (∀ W, Below V.heap.size V W → Calls Try.prog 16 #[NV 2 (.slice (some ⟨w.heap.size, 0, none⟩) 1 1) (.slice (some ⟨w.heap.size + 1, 0, none⟩) 2 2) (.slice (some ⟨w.heap.size + 1 + 1, 0, none⟩) 2 2) (.slice none 0 0), .agg #[.string emptyS, .string emptyS]] W fun r w' => r = .returned (.bool true) ∧ Below W.heap.size W w') := Lib.hid (fun W h => iright_true 2 (some ⟨w.heap.size, 0, none⟩) (some ⟨w.heap.size + 1, 0, none⟩) (some ⟨w.heap.size + 1 + 1, 0, none⟩) none 1 1 2 2 2 2 0 0 jp [5, 6] [q1, q2] emptyS emptyS W rfl (by omega) (es_rd.1 (hP.later h)) rfl (hK.later h) (by intro x hx; simp at hx; rcases hx with rfl | rfl <;> decide) rfl (by omega) (hM.later h) lv_ok lv_rn)
  have HW := Lib.hid hb
  have Z := Lib.hid Z0
  have H0 := Lib.hid (Below.refl V.heap.size V)
  have HV := Lib.hid hV
  clear b1 b2 b3 b4 rP rK rM hz hP hK hM Z0 hb hV
  go_enter Try.func9, Try.ntmps9
  go_wp2_with (first
    | (go_at_call 18; ((with_reducible refine (AF.out _ (by rw [← HV.out]; exact Below.refl _ _)).mono ?_); rintro e w1 ⟨⟨A1, a1, rfl, r1⟩, b⟩; rw [← HV.out] at b; have R1 := Lib.hid r1.rd; replace H0 := Lib.hid b; replace Z := Lib.hid (keep_bel b Z.out); obtain ⟨c0, c1, c2, c3, c4⟩ := cells5 Z.out; clear b r1))
    | (go_at_call 35; ((with_reducible refine (AH.out _ H0.out).mono ?_); rintro e w2 ⟨rfl, b⟩; replace R1 := Lib.hid (R1.out.later b); replace H0 := Lib.hid (bel_trans H0.out b); replace Z := Lib.hid (keep_bel b Z.out); clear b c0 c1 c2 c3 c4; obtain ⟨c0, c1, c2, c3, c4⟩ := cells5 Z.out))
    | (go_at_call 36; ((with_reducible refine (AK.out _ H0.out).mono ?_); rintro e w3 ⟨rfl, b⟩; replace R1 := Lib.hid (R1.out.later b); replace H0 := Lib.hid (bel_trans H0.out b); replace Z := Lib.hid (keep_bel b Z.out); clear b c0 c1 c2 c3 c4; obtain ⟨c0, c1, c2, c3, c4⟩ := cells5 Z.out))
    | (go_at_call 16; ((with_reducible refine (AR.out _ H0.out).mono ?_); rintro e w4 ⟨rfl, b⟩; replace R1 := Lib.hid (R1.out.later b); replace H0 := Lib.hid (bel_trans H0.out b); replace Z := Lib.hid (keep_bel b Z.out); clear b c0 c1 c2 c3 c4; obtain ⟨c0, c1, c2, c3, c4⟩ := cells5 Z.out; obtain ⟨b0, off, rfl, _, _, _, _, g3, _, _⟩ := eg_at R1.out (i := 0) rfl; simp only [Nat.zero_mul, Nat.add_zero] at g3))
    | fail)
  go_ret
  exact ⟨rfl, bel_trans HW.out H0.out⟩
end Go.Proofs.Ytilnpeekajnlhaa
namespace Go.Proofs.Ytilnpeekajnlhaa
open Go.RowKit Go.Maps
theorem small_yes {n k m b : Nat} (h : smallB n k m b = true) : k ≤ 20 ∧ n ≤ 20 ∧ m ≤ 30 ∧ b ≤ 5 := by
  unfold smallB at h
  simp only [Bool.and_eq_true, decide_eq_true_eq] at h
  omega
/-- A row of so many cells may be written; it lies between two marks. -/
def WrO (W : World) (N NL : Nat) (A : Option Addr) (m : Nat) : Prop := m = 0 ∨ ∃ b off cs t, A = some ⟨b, off, none⟩ ∧ N ≤ b ∧ b < NL ∧ W.heap[b]? = some (.cells cs t (0, 0)) ∧ off + m ≤ cs.size
theorem WrO.later {W W2 : World} {N NL m : Nat} {A : Option Addr} (h : WrO W N NL A m) (k : Below W.heap.size W W2) : WrO W2 N NL A m :=
  h.imp id (fun ⟨b, off, cs, t, e, h1, h2, h3, h4⟩ => ⟨b, off, cs, t, e, h1, h2, keep_bel k h3, h4⟩)
theorem WrO.wide {W : World} {N N2 NL NL2 m : Nat} {A : Option Addr} (h : WrO W N NL A m) (h1 : N2 ≤ N) (h2 : NL ≤ NL2) : WrO W N2 NL2 A m :=
  h.imp id (fun ⟨b, off, cs, t, e, k1, k2, k3⟩ => ⟨b, off, cs, t, e, Nat.le_trans h1 k1, Nat.lt_of_lt_of_le k2 h2, k3⟩)
theorem WrO.set {W : World} {N NL m : Nat} {A : Option Addr} (h : WrO W N NL A m) (g o : Nat) (v : Value) : WrO (W.setCell ⟨g, o, none⟩ v) N NL A m := by
  rcases h with h | ⟨b, off, cs, t, rfl, h1, h2, h3, h4⟩
  · exact .inl h
  · by_cases e : g = b
    · subst e
      refine .inr ⟨g, off, cs.setIfInBounds o v, t, rfl, h1, h2, ?_, by simpa using h4⟩
      have hlt : g < W.heap.size := (Array.getElem?_eq_some_iff.1 h3).1
      have q : W.heap[g] = .cells cs t (0, 0) := by have := h3; rw [Array.getElem?_eq_getElem hlt] at this; exact Option.some.inj this
      rw [Array.getElem?_eq_getElem (by simpa [World.setCell] using hlt)]
      simp [World.setCell, Array.getElem_modify, q]
    · refine .inr ⟨b, off, cs, t, rfl, h1, h2, ?_, h4⟩
      simp [World.setCell, Array.getElem?_modify, h3, e]
theorem WrO.at {W : World} {N NL m : Nat} {A : Option Addr} (h : WrO W N NL A m) {j : Nat} (hj : j < m) : ∃ b off, A = some ⟨b, off, none⟩ ∧ N ≤ b ∧ b < NL ∧ b < W.heap.size ∧ (∀ i, i < m → (∃ x, W.cell? ⟨b, off + i, none⟩ = some x) ∧ W.frozen? ⟨b, off + i, none⟩ = false) := by
  rcases h with h | ⟨b, off, cs, t, rfl, h1, h2, h3, h4⟩
  · omega
  · refine ⟨b, off, rfl, h1, h2, (Array.getElem?_eq_some_iff.1 h3).1, fun i hi => ⟨⟨cs[off + i]'(by omega), ?_⟩, ?_⟩⟩
    · simp [World.cell?, h3, Array.getElem?_eq_getElem (show off + i < cs.size by omega)]
    · simp [World.frozen?, h3]
theorem WrO.row {α : Type} {E : RE α} {W : World} {base : Nat} {A : Option Addr} {l : List α} {c n : Nat} (h : E.Row W base A l c) (hn : l.length = n) : WrO W base W.heap.size A (n * E.k) := by
  subst hn
  rcases h with ⟨e, _⟩ | ⟨h0, h1, h2⟩
  · subst e; exact .inl (by simp)
  · rcases h2 with ⟨hv, hn⟩ | ⟨g, cap, cur, hv, hb, hz, h3, h4, h5, h6⟩
    · injection hv with e1 e2 e3; omega
    · cases hv
      refine .inr ⟨g, 0, cur, E.et, rfl, hb, (Array.getElem?_eq_some_iff.1 hz).1, hz, ?_⟩
      have := congrArg List.length h6
      rw [List.length_take, E.all_len] at this
      simp at this
      omega
theorem WrO.newR {α : Type} {E : RE α} {W : World} {base : Nat} {A : Option Addr} {l : List α} {n : Nat} (h : NewR E W base A l) (hn : l.length = n) : WrO W base W.heap.size A (n * E.k) := by
  subst hn
  rcases h.2 with e | ⟨b, off, cs, t, rfl, hb, hz⟩
  · subst e; exact .inl (by simp)
  · by_cases h0 : l.length * E.k = 0
    · exact .inl h0
    · refine .inr ⟨b, off, cs, t, rfl, hb, (Array.getElem?_eq_some_iff.1 hz).1, hz, ?_⟩
      rcases h.1 with e | ⟨b', off', e, hlt, hv⟩
      · have : (E.all l).length = 0 := by rw [e]; rfl
        rw [E.all_len] at this; omega
      · cases e
        have hlen : (E.all l).length = l.length * E.k := E.all_len l
        obtain ⟨x, hx⟩ : ∃ x, (E.all l)[l.length * E.k - 1]? = some x := ⟨_, List.getElem?_eq_getElem (by omega)⟩
        have q := hv _ _ hx
        simp [World.cell?, hz] at q
        have := (Array.getElem?_eq_some_iff.1 q).1
        omega
/-- Three rows that may be written. -/
structure WR (W : World) (N NL : Nat) (P : Option Addr) (n : Nat) (J : Option Addr) (k : Nat) (M : Option Addr) (m : Nat) : Prop where
  w1 : WrO W N NL P n
  w2 : WrO W N NL J k
  w3 : WrO W N NL M (m * 6)
theorem WR.later {W W2 : World} {N NL n k m : Nat} {P J M : Option Addr} (h : WR W N NL P n J k M m) (b : Below W.heap.size W W2) : WR W2 N NL P n J k M m := ⟨h.w1.later b, h.w2.later b, h.w3.later b⟩
theorem WR.wide {W : World} {N N2 NL NL2 n k m : Nat} {P J M : Option Addr} (h : WR W N NL P n J k M m) (h1 : N2 ≤ N) (h2 : NL ≤ NL2) : WR W N2 NL2 P n J k M m := ⟨h.w1.wide h1 h2, h.w2.wide h1 h2, h.w3.wide h1 h2⟩
theorem R3.wr {W : World} {base : Nat} {P J M : Option Addr} {p j mc n k m : Nat} {pa : List ByteArray} {ia : List Int} {ma : List MG} (h : R3 W base P J M p j mc pa ia ma) (q1 : pa.length = n) (q2 : ia.length = k) (q3 : ma.length = m) : WR W base W.heap.size P n J k M m :=
  ⟨by have := WrO.row h.r1 q1; rwa [show n * ES.k = n from Nat.mul_one n] at this, by have := WrO.row h.r2 q2; rwa [show k * EI.k = k from Nat.mul_one k] at this, WrO.row h.r3 q3⟩
theorem wr_add {W : World} {base : Nat} {P J M : Option Addr} {p j n k m : Nat} {pa : List ByteArray} {ia : List Int} {ma : List MG} (h1 : ES.Row W base P pa p) (h2 : EI.Row W base J ia j) (h3 : NewR EG W base M ma) (q1 : pa.length = n) (q2 : ia.length = k) (q3 : ma.length = m) : WR W base W.heap.size P n J k M m :=
  ⟨by have := WrO.row h1 q1; rwa [show n * ES.k = n from Nat.mul_one n] at this, by have := WrO.row h2 q2; rwa [show k * EI.k = k from Nat.mul_one k] at this, WrO.newR h3 q3⟩
end Go.Proofs.Ytilnpeekajnlhaa
