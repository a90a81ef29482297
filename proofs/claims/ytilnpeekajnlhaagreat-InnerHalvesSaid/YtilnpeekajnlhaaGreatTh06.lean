/- Texts of the proof, one behind the other. -/
import Derived.Test.YtilnpeekajnlhaaGreatTh02
import Derived.Deep.RegionHeld3
import Derived.Test.YtilnpeekajnlhaaGreatTh05
import Derived.Test.YtilnpeekajnlhaaGreatTh03
set_option linter.unusedVariables false
set_option linter.unusedSimpArgs false
namespace Go.Proofs.YtilnpeekajnlhaaGreat
def minS (a b : ByteArray) : ByteArray := if lt b a then b else a
theorem nlt_trans {a b c : ByteArray} (h1 : lt b a = false) (h2 : lt c b = false) : lt c a = false := by
  cases h : lt c a
  · rfl
  · exfalso
    unfold lt at *
    rcases bl_tri c.toList b.toList with x | x | x
    · rw [x] at h2; cases h2
    · rw [x, h1] at h; cases h
    · have := bl_trans _ _ _ x h; rw [h1] at this; cases this
theorem lt_of_lt_nlt {a b c : ByteArray} (h1 : lt a b = true) (h2 : lt c b = false) : lt a c = true := by
  unfold lt at *
  rcases bl_tri b.toList c.toList with x | x | x
  · exact bl_trans _ _ _ h1 x
  · rw [← x]; exact h1
  · rw [x] at h2; cases h2
end Go.Proofs.YtilnpeekajnlhaaGreat
namespace Go.Proofs.YtilnpeekajnlhaaGreat
open Go.RowKit Go.Maps
theorem run_min_str (ts : Array TypeId) (t : TypeId) (x y : ByteArray) {P : Program} (w : World) : (Builtin.min_ ts t #[.string x, .string y]).run P w = .ok (.string (minS x y)) w := by
  have hb := bl_le x.toList y.toList
  cases h : Op.bytesLess y.toList x.toList
  · have : minS x y = x := by unfold minS lt; rw [h]; rfl
    rw [this]
    rw [h] at hb
    simp only [Builtin.min_, Builtin.min2, Op.stringOp, asBool, List.foldlM]
    simp [hb, asBool]
  · have : minS x y = y := by unfold minS lt; rw [h]; rfl
    rw [this]
    rw [h] at hb
    simp only [Builtin.min_, Builtin.min2, Op.stringOp, asBool, List.foldlM]
    simp [hb, asBool]
attribute [local go_sem] run_min_str
end Go.Proofs.YtilnpeekajnlhaaGreat
namespace Go.Proofs.YtilnpeekajnlhaaGreat
open Go.RowKit Go.Maps
def insK (m : MG) (xs : List MG) : Nat → Nat
  | 0 => 0
  | k + 1 => match xs[k]? with
    | some y => if aheadM m y then insK m xs k else k + 1
    | none => k + 1
def insM (m : MG) (xs : List MG) : List MG := xs.take (insK m xs xs.length) ++ [m] ++ xs.drop (insK m xs xs.length)
theorem insK_yes {m y : MG} {xs : List MG} {k : Nat} (h : xs[k]? = some y) (ha : aheadM m y = true) : insK m xs (k + 1) = insK m xs k := by simp [insK, h, ha]
theorem insK_no {m y : MG} {xs : List MG} {k : Nat} (h : xs[k]? = some y) (ha : aheadM m y = false) : insK m xs (k + 1) = k + 1 := by simp [insK, h, ha]
theorem insM_len (m : MG) (xs : List MG) : (insM m xs).length = xs.length + 1 := by
  unfold insM; simp [List.length_take, List.length_drop]; omega
theorem drop_rd {w : World} {b off cap n k : Nat} {xs : List MG} (hA : EG.Rd w (some ⟨b, off, none⟩) xs) (hl : xs.length = n) (hk : k ≤ n) (hn : n ≤ cap) : EG.Rd w (some ⟨b, if cap = k then off else off + k * 6, none⟩) (xs.drop k) := by
  by_cases h : cap = k
  · have : xs.drop k = [] := List.drop_eq_nil_of_le (by omega)
    rw [this]; exact .inl rfl
  · rw [if_neg h]
    exact hA.drop k
theorem row_some {w : World} {base : Nat} {A : Option Addr} {l : List MG} {c : Nat} (h : EG.Row w base A l c) {x : MG} (hx : x ∈ l) : ∃ b off, A = some ⟨b, off, none⟩ := by
  obtain ⟨i, hi, e⟩ := List.mem_iff_getElem.1 hx
  obtain ⟨b, off, e2, _⟩ := h.rd.get (List.getElem?_eq_getElem hi)
  exact ⟨b, off, e2⟩
/-- What is answered: messages in memory, behind an address. -/
def SomeOf (L : List MG) (w : World) (r : Ending) (w' : World) : Prop := (∃ b' off' c', r = .returned (.slice (some ⟨b', off', none⟩) L.length c') ∧ EG.Rd w' (some ⟨b', off', none⟩) L ∧ L.length ≤ c' ∧ c' ≤ maxLen) ∧ Below w.heap.size w w'
set_option maxRecDepth 100000 in
set_option maxHeartbeats 8000000 in
theorem into_any (b off n cap : Nat) (xs : List MG) (m : MG) (w : World) (hl : xs.length = n) (hn : n ≤ 1000) (hnc : n ≤ cap) (hc : cap ≤ maxLen) (hA : EG.Rd w (some ⟨b, off, none⟩) xs) :
    Calls Tryz.prog 72 #[.slice (some ⟨b, off, none⟩) n cap, MV m] w (SomeOf (insM m xs) w) := by
  have HL := Lib.hid hl
  unfold maxLen at hc
  have HA := Lib.hid (fun W (hW : Below w.heap.size w W) => hA.later hW)
  have H0 := Lib.hid (alb w (MO m))
  have z0 := Lib.hid (heap_alloc_new w (MO m))
  clear hl hA
  go_enter Tryz.func72, Tryz.ntmps72
  go_wp2
  go_loopw [5] (fun sv wr => ∃ (k : Nat), k ≤ n ∧ sv = .int .i64 k ∧ Hid (insK m xs n = insK m xs k) ∧ Below w.heap.size w wr ∧ Hid (wr.heap[w.heap.size]? = some (MO m))) (fun v _ => (intOf v).toNat)
  case atStart => exact ⟨n, by omega, rfl, Lib.hid rfl, H0.out, z0⟩
  case round =>
    obtain ⟨k, hk, rfl, HIK, hb, ZR⟩ := hrel
    have HB := Lib.hid hb
    clear hb
    by_cases h0 : k = 0
    · have z1 : ¬ (0 : Int) < (k : Int) := by omega
      have z1n : ¬ (0 < k) := by omega
      have z1d : decide (0 < k) = false := by simpa using z1n
      replace HIK := Lib.hid (show insK m xs n = k by rw [HIK.out, h0]; rfl)
      clear h0
      go_wp2_with fail
      go_quiet (fail)
      have BQ := Lib.hid (fun q => bel_drewN HB.out q)
      have ZQ := Lib.hid (fun q => show (wr.drewN q).heap[w.heap.size]? = some (MO m) by simpa using ZR.out)
      refine at_exit (fun WN hWN => ?_)
      have BN := Lib.hid (show Below w.heap.size w WN by rw [hWN]; exact BQ.out _)
      have ZN := Lib.hid (show WN.heap[w.heap.size]? = some (MO m) by rw [hWN]; exact ZQ.out _)
      clear hWN
      obtain ⟨o3, ho3⟩ : ∃ o3, o3 = if cap = k then off else off + k * 6 := ⟨_, rfl⟩
      have HD := Lib.hid (fun W (hW : Below w.heap.size w W) => show EG.Rd W (some ⟨b, o3, none⟩) (xs.drop k) by rw [ho3]; exact drop_rd (HA.out W hW) HL.out (by omega) (by omega))
      have HK := Lib.hid (fun W (hW : Below w.heap.size w W) => (HA.out W hW).take k)
      have HTL := Lib.hid (show (xs.take k).length = k by have := HL.out; rw [List.length_take]; omega)
      have HDL := Lib.hid (show (xs.drop k).length = n - k by have := HL.out; rw [List.length_drop]; omega)
      have HIM := Lib.hid (show insM m xs = xs.take k ++ [m] ++ xs.drop k by unfold insM; rw [HL.out, HIK.out])
      have B1 := Lib.hid (bel_alloc BN.out (.cells #[] 50))
      have Z1 := Lib.hid (keep_bel (alb WN (.cells #[] 50)) ZN.out)
      have kc : k ≤ cap := by omega
      have kc1 : (k : Int) ≤ (cap : Int) := by omega
      have kn1 : (k : Int) ≤ (n : Int) := by omega
      have kz : (0 : Int) ≤ (k : Int) := by omega
      obtain ⟨c0, c1, c2, c3, c4, c5⟩ := cells6 Z1.out
      by_cases hck : cap = k
      all_goals
        first
          | rw [if_pos hck] at ho3
          | rw [if_neg hck] at ho3
        subst ho3
        go_wp2_with (first
          | (at_builtin; refine RE.wpList_put EG _ rfl (.tmp 22) (.tmp 25) rfl (base := w.heap.size) (some ⟨WN.heap.size, 0, none⟩) 0 0 [] _ k _ (xs.take k) rfl rfl (.inl ⟨rfl, rfl⟩) rfl (by omega) B1.out.size HTL.out (by omega) (HK.out _ B1.out) ?_; intro A4 q4 w4 r1 r2 r3; have R4 := Lib.hid r1; have bu := bel_of_nil2 r2; have B4 := Lib.hid (bel_trans B1.out bu); have Z4 := Lib.hid (keep_bel bu Z1.out); clear r1 r2 r3 bu c0 c1 c2 c3 c4 c5; obtain ⟨c0, c1, c2, c3, c4, c5⟩ := cells6 Z4.out; have B4m := Lib.hid (bel_alloc B4.out (MO m)); have R4m := Lib.hid (R4.out.later (alb w4 (MO m))); have RL4 := Lib.hid (lit1 w4 m rfl))
          | (at_builtin; refine RE.wpList_put EG _ rfl (.tmp 27) (.tmp 29) rfl (base := w.heap.size) A4 k q4 ([] ++ xs.take k) _ 1 1 [m] rfl rfl R4m.out (by rw [List.nil_append]; exact HTL.out) (by omega) B4m.out.size rfl (by omega) RL4.out ?_; intro A5 q5 w5 r1 r2 r3; have R5 := Lib.hid r1; have B5 := Lib.hid (B4m.out.trans (RE.Row.below r2 R4m.out (Nat.le_refl _) B4m.out.size)); clear r1 r2 r3)
          | (at_builtin; refine RE.wpList_put EG _ rfl (.tmp 31) (.tmp 34) rfl (base := w.heap.size) A5 (k + 1) q5 ([] ++ xs.take k ++ [m]) _ (n - k) _ (xs.drop k) rfl rfl R5.out (by rw [List.nil_append, List.length_append, HTL.out]; rfl) (by omega) B5.out.size HDL.out (by omega) (HD.out _ B5.out) ?_; intro A6 q6 w6 r1 r2 r3; have R6 := Lib.hid r1; have B6 := Lib.hid (B5.out.trans (RE.Row.below r2 R5.out (Nat.le_refl _) B5.out.size)); clear r1 r2 r3)
          | fail)
        obtain ⟨b6, off6, e6⟩ := row_some R6.out (x := m) (by simp)
        subst e6
        have HLN : Hid (k + 1 + (n - k) = (insM m xs).length) := Lib.hid (by rw [insM_len, HL.out]; omega)
        have HF : Hid (EG.Row w6 w.heap.size (some ⟨b6, off6, none⟩) (insM m xs) q6) := Lib.hid (by rw [HIM.out]; simpa using R6.out)
        rw [HLN.out]
        clear c0 c1 c2 c3 c4 c5
        go_ret
        exact ⟨⟨_, _, _, rfl, HF.out.rd, HF.out.cap.1, HF.out.cap.2⟩, B6.out⟩
    · have hk1 : (0 : Int) < (k : Int) := by omega
      have hk2 : 0 < k := by omega
      obtain ⟨p, hp⟩ : ∃ p, k = p + 1 := ⟨k - 1, by omega⟩
      have wr1 : IntKind.i64.wrap ((k : Int) - 1) = (k : Int) - 1 := IntWalk.i64_in _ (by omega)
      have e1 : (k : Int) - 1 = (p : Int) := by omega
      have p0 : (0 : Int) ≤ (p : Int) := by omega
      have pn : (p : Int) < (n : Int) := by omega
      have pnn : p < n := by omega
      have w2 : IntKind.i64.wrap (p : Int) = (p : Int) := IntWalk.i64_in _ (by omega)
      have k1 : (1 : Int) ≤ (k : Int) := by omega
      have k2 : 1 ≤ k := by omega
      have k3 : (k : Int) < (n : Int) + 1 := by omega
      have k4 : (k : Int) ≤ (n : Int) := by omega
      obtain ⟨y, hy⟩ : ∃ y, xs[p]? = some y := ⟨_, List.getElem?_eq_getElem (by rw [HL.out]; omega)⟩
      obtain ⟨b', off', e2, hlt, g0, g1, g2, g3, g4, g5⟩ := eg_at (HA.out _ HB.out) hy
      injection e2 with e2; injection e2 with e2 e3 e4; subst e2; subst e3
      have HY := Lib.hid hy
      have HP := Lib.hid hp
      obtain ⟨c0, c1, c2, c3, c4, c5⟩ := cells6 ZR.out
      clear hy hlt e4 hp h0
      have KS := Lib.hid (show ∀ W, Below wr.heap.size wr W → Below wr.heap.size wr W ∧ W.cell? ⟨w.heap.size, 0, none⟩ = some (.int .u8 m.kd) ∧ W.cell? ⟨w.heap.size, 1, none⟩ = some (.int .i64 m.sq) ∧ W.cell? ⟨w.heap.size, 2, none⟩ = some (.string m.ky) ∧ W.cell? ⟨w.heap.size, 3, none⟩ = some (.string m.to) ∧ W.cell? ⟨w.heap.size, 4, none⟩ = some (.string m.vl) ∧ W.cell? ⟨w.heap.size, 5, none⟩ = some (.int .u64 m.dl) ∧ W.cell? ⟨b, off + p * 6, none⟩ = some (.int .u8 y.kd) ∧ W.cell? ⟨b, off + p * 6 + 1, none⟩ = some (.int .i64 y.sq) ∧ W.cell? ⟨b, off + p * 6 + 2, none⟩ = some (.string y.ky) ∧ W.cell? ⟨b, off + p * 6 + 3, none⟩ = some (.string y.to) ∧ W.cell? ⟨b, off + p * 6 + 4, none⟩ = some (.string y.vl) ∧ W.cell? ⟨b, off + p * 6 + 5, none⟩ = some (.int .u64 y.dl) from fun W h => ⟨h, bel_later h c0, bel_later h c1, bel_later h c2, bel_later h c3, bel_later h c4, bel_later h c5, bel_later h g0, bel_later h g1, bel_later h g2, bel_later h g3, bel_later h g4, bel_later h g5⟩)
      have AA := Lib.hid (ahead_any m y)
      cases ha : aheadM m y
      all_goals
        rw [ha] at AA
        have HAH := Lib.hid ha
        clear ha
        go_wp2_with fail
        clear c0 c1 c2 c3 c4 c5 g0 g1 g2 g3 g4 g5
        go_region_held3 (fun W => Below wr.heap.size wr W ∧ W.cell? ⟨w.heap.size, 0, none⟩ = some (.int .u8 m.kd) ∧ W.cell? ⟨w.heap.size, 1, none⟩ = some (.int .i64 m.sq) ∧ W.cell? ⟨w.heap.size, 2, none⟩ = some (.string m.ky) ∧ W.cell? ⟨w.heap.size, 3, none⟩ = some (.string m.to) ∧ W.cell? ⟨w.heap.size, 4, none⟩ = some (.string m.vl) ∧ W.cell? ⟨w.heap.size, 5, none⟩ = some (.int .u64 m.dl) ∧ W.cell? ⟨b, off + p * 6, none⟩ = some (.int .u8 y.kd) ∧ W.cell? ⟨b, off + p * 6 + 1, none⟩ = some (.int .i64 y.sq) ∧ W.cell? ⟨b, off + p * 6 + 2, none⟩ = some (.string y.ky) ∧ W.cell? ⟨b, off + p * 6 + 3, none⟩ = some (.string y.to) ∧ W.cell? ⟨b, off + p * 6 + 4, none⟩ = some (.string y.vl) ∧ W.cell? ⟨b, off + p * 6 + 5, none⟩ = some (.int .u64 y.dl)) (first | exact KS.out _ ((Below.refl _ _).drew) | exact KS.out _ (bel_trans (And.left ‹_›) ‹_›) | (trace_state; fail)) (first
          | (go_at_call 41; ((with_reducible refine (AA.out _).mono ?_); rintro e w1 ⟨rfl, b1⟩)))
        rename_i hH
        have BQ := Lib.hid (bel_trans HB.out hH.1)
        have ZQ := Lib.hid (keep_bel hH.1 ZR.out)
        clear hH
      · replace HIK := Lib.hid (show insK m xs n = k by rw [HIK.out, HP.out, insK_no HY.out HAH.out])
        clear wr1 e1 p0 pn pnn w2 k1 k2 k3 k4 KS AA HAH HY
        refine at_exit (fun WN hWN => ?_)
        have BN := Lib.hid (show Below w.heap.size w WN by rw [hWN]; exact BQ.out)
        have ZN := Lib.hid (show WN.heap[w.heap.size]? = some (MO m) by rw [hWN]; exact ZQ.out)
        clear hWN
        obtain ⟨o3, ho3⟩ : ∃ o3, o3 = if cap = k then off else off + k * 6 := ⟨_, rfl⟩
        have HD := Lib.hid (fun W (hW : Below w.heap.size w W) => show EG.Rd W (some ⟨b, o3, none⟩) (xs.drop k) by rw [ho3]; exact drop_rd (HA.out W hW) HL.out (by omega) (by omega))
        have HK := Lib.hid (fun W (hW : Below w.heap.size w W) => (HA.out W hW).take k)
        have HTL := Lib.hid (show (xs.take k).length = k by have := HL.out; rw [List.length_take]; omega)
        have HDL := Lib.hid (show (xs.drop k).length = n - k by have := HL.out; rw [List.length_drop]; omega)
        have HIM := Lib.hid (show insM m xs = xs.take k ++ [m] ++ xs.drop k by unfold insM; rw [HL.out, HIK.out])
        have B1 := Lib.hid (bel_alloc BN.out (.cells #[] 50))
        have Z1 := Lib.hid (keep_bel (alb WN (.cells #[] 50)) ZN.out)
        have kc : k ≤ cap := by omega
        have kc1 : (k : Int) ≤ (cap : Int) := by omega
        have kn1 : (k : Int) ≤ (n : Int) := by omega
        have kz : (0 : Int) ≤ (k : Int) := by omega
        obtain ⟨c0, c1, c2, c3, c4, c5⟩ := cells6 Z1.out
        by_cases hck : cap = k
        all_goals
          first
            | rw [if_pos hck] at ho3
            | rw [if_neg hck] at ho3
          subst ho3
          go_wp2_with (first
            | (at_builtin; refine RE.wpList_put EG _ rfl (.tmp 22) (.tmp 25) rfl (base := w.heap.size) (some ⟨WN.heap.size, 0, none⟩) 0 0 [] _ k _ (xs.take k) rfl rfl (.inl ⟨rfl, rfl⟩) rfl (by omega) B1.out.size HTL.out (by omega) (HK.out _ B1.out) ?_; intro A4 q4 w4 r1 r2 r3; have R4 := Lib.hid r1; have bu := bel_of_nil2 r2; have B4 := Lib.hid (bel_trans B1.out bu); have Z4 := Lib.hid (keep_bel bu Z1.out); clear r1 r2 r3 bu c0 c1 c2 c3 c4 c5; obtain ⟨c0, c1, c2, c3, c4, c5⟩ := cells6 Z4.out; have B4m := Lib.hid (bel_alloc B4.out (MO m)); have R4m := Lib.hid (R4.out.later (alb w4 (MO m))); have RL4 := Lib.hid (lit1 w4 m rfl))
            | (at_builtin; refine RE.wpList_put EG _ rfl (.tmp 27) (.tmp 29) rfl (base := w.heap.size) A4 k q4 ([] ++ xs.take k) _ 1 1 [m] rfl rfl R4m.out (by rw [List.nil_append]; exact HTL.out) (by omega) B4m.out.size rfl (by omega) RL4.out ?_; intro A5 q5 w5 r1 r2 r3; have R5 := Lib.hid r1; have B5 := Lib.hid (B4m.out.trans (RE.Row.below r2 R4m.out (Nat.le_refl _) B4m.out.size)); clear r1 r2 r3)
            | (at_builtin; refine RE.wpList_put EG _ rfl (.tmp 31) (.tmp 34) rfl (base := w.heap.size) A5 (k + 1) q5 ([] ++ xs.take k ++ [m]) _ (n - k) _ (xs.drop k) rfl rfl R5.out (by rw [List.nil_append, List.length_append, HTL.out]; rfl) (by omega) B5.out.size HDL.out (by omega) (HD.out _ B5.out) ?_; intro A6 q6 w6 r1 r2 r3; have R6 := Lib.hid r1; have B6 := Lib.hid (B5.out.trans (RE.Row.below r2 R5.out (Nat.le_refl _) B5.out.size)); clear r1 r2 r3)
            | fail)
          obtain ⟨b6, off6, e6⟩ := row_some R6.out (x := m) (by simp)
          subst e6
          have HLN : Hid (k + 1 + (n - k) = (insM m xs).length) := Lib.hid (by rw [insM_len, HL.out]; omega)
          have HF : Hid (EG.Row w6 w.heap.size (some ⟨b6, off6, none⟩) (insM m xs) q6) := Lib.hid (by rw [HIM.out]; simpa using R6.out)
          rw [HLN.out]
          clear c0 c1 c2 c3 c4 c5
          go_ret
          exact ⟨⟨_, _, _, rfl, HF.out.rd, HF.out.cap.1, HF.out.cap.2⟩, B6.out⟩
      · go_wp2
        exact ⟨⟨p, by omega, rfl, Lib.hid (by rw [HIK.out, HP.out, insK_yes HY.out HAH.out]), BQ.out, ZQ⟩, by simp [intOf]; have := HP.out; omega⟩
end Go.Proofs.YtilnpeekajnlhaaGreat
namespace Go.Proofs.YtilnpeekajnlhaaGreat
open Go.RowKit Go.Maps
def forL (a b : ByteArray) (xs : List MG) : List MG := xs.flatMap fun x => if (clipM x a b).2 then [(clipM x a b).1] else []
def resL (a b : ByteArray) (xs : List MG) : List MG := xs.flatMap fun x => restM x a b
theorem forL_next {a b : ByteArray} {xs : List MG} {k : Nat} {x : MG} (h : xs[k]? = some x) : forL a b (xs.take (k + 1)) = forL a b (xs.take k) ++ (if (clipM x a b).2 then [(clipM x a b).1] else []) := by
  rw [List.take_add_one, h]; simp [forL]
theorem resL_next {a b : ByteArray} {xs : List MG} {k : Nat} {x : MG} (h : xs[k]? = some x) : resL a b (xs.take (k + 1)) = resL a b (xs.take k) ++ restM x a b := by
  rw [List.take_add_one, h]; simp [resL]
theorem forL_len (a b : ByteArray) (xs : List MG) : (forL a b xs).length ≤ xs.length := by
  induction xs with
  | nil => simp [forL]
  | cons x xs ih =>
    have e : forL a b (x :: xs) = (if (clipM x a b).2 then [(clipM x a b).1] else []) ++ forL a b xs := by simp [forL]
    rw [e, List.length_append]
    split <;> simp <;> omega
theorem rest_len (m : MG) (a b : ByteArray) : (restM m a b).length ≤ 2 := by
  unfold restM restQ
  repeat' split
  all_goals simp
theorem resL_len (a b : ByteArray) (xs : List MG) : (resL a b xs).length ≤ 2 * xs.length := by
  induction xs with
  | nil => simp [resL]
  | cons x xs ih =>
    have e : resL a b (x :: xs) = restM x a b ++ resL a b xs := by simp [resL]
    have := rest_len x a b
    rw [e, List.length_append, List.length_cons]; omega
theorem take_le (xs : List MG) (k : Nat) : (xs.take k).length ≤ k := by simp [List.length_take]; omega
set_option maxRecDepth 10000 in
set_option maxHeartbeats 4000000 in
theorem for_any (a b : ByteArray) (A : Option Addr) (n cap : Nat) (xs : List MG) (w : World) (hl : xs.length = n) (hn : n ≤ 1000) (hA : EG.Rd w A xs) (ho : OkA xs) :
    Calls Tryz.prog 45 #[.slice A n cap, .agg #[.string a, .string b]] w fun r w' => (∃ A' c', r = .returned (.slice A' (forL a b xs).length c') ∧ EG.Row w' w.heap.size A' (forL a b xs) c') ∧ Below w.heap.size w w' := by
  have HL := Lib.hid hl
  have HA := Lib.hid hA
  have HO := Lib.hid ho
  have H0 := Lib.hid (alb w (rgc a b))
  have z0 := Lib.hid (heap_alloc_new w (rgc a b))
  clear hl hA ho
  go_enter Tryz.func45, Tryz.ntmps45
  go_wp2
  go_loopw [5, 12] (fun sv iv wr => ∃ (k : Nat) (A' : Option Addr) (c' m : Nat), k ≤ n ∧ iv = .int .i64 k ∧ sv = .slice A' m c' ∧ (forL a b (xs.take k)).length = m ∧ EG.Row wr (w.alloc (rgc a b)).heap.size A' (forL a b (xs.take k)) c' ∧ Below (w.alloc (rgc a b)).heap.size (w.alloc (rgc a b)) wr) (fun _ i _ => n - (intOf i).toNat)
  case atStart => exact ⟨0, none, 0, 0, by omega, rfl, rfl, rfl, .inl ⟨rfl, rfl⟩, Below.refl _ _⟩
  case round =>
    obtain ⟨k, A', c', m, hk, rfl, rfl, hm, hr, hb⟩ := hrel
    have HM := Lib.hid hm
    have HR := Lib.hid hr
    have HB := Lib.hid (bel_trans H0.out hb)
    have HP := Lib.hid hb
    have ZR := Lib.hid (keep_bel hb z0.out)
    clear hm hr hb
    by_cases h8 : k < n
    · have hk1 : (k : Int) < (n : Int) := by omega
      have hk0 : (0 : Int) ≤ (k : Int) := by omega
      obtain ⟨x, hx⟩ : ∃ x, xs[k]? = some x := ⟨_, List.getElem?_eq_getElem (by rw [HL.out]; omega)⟩
      obtain ⟨b', off, rfl, hlt, g0, g1, g2, g3, g4, g5⟩ := eg_at (HA.out.later HB.out) hx
      have HNX := Lib.hid (forL_next (a := a) (b := b) hx)
      have AC := Lib.hid (clip_any x (HO.out.get hx) a b)
      have HMM : Hid (m ≤ 1000) := Lib.hid (by have := forL_len a b (xs.take k); have := take_le xs k; rw [HM.out] at *; omega)
      obtain ⟨d0, d1, -, -⟩ := has_two (keep_bel (alb wr (MO x)) ZR.out)
      clear hx hlt
      obtain ⟨p, ok, hq⟩ : ∃ p ok, clipM x a b = (p, ok) := ⟨_, _, rfl⟩
      rw [hq] at HNX AC
      clear hq
      cases ok with
      | false =>
        rw [if_neg (by simp), List.append_nil] at HNX
        go_wp2_with (first
          | (go_at_call 76; ((with_reducible refine (AC.out _).mono ?_); rintro e w1 ⟨rfl, b1⟩; have B1 := Lib.hid (bel_alloc (bel_a b1) (MO p)); clear b1))
          | fail)
        exact ⟨⟨k + 1, A', c', m, by omega, by simp, rfl, by rw [HNX.out]; exact HM.out, by rw [HNX.out]; exact HR.out.later B1.out, bel_trans HP.out B1.out⟩, by simp [intOf]; omega⟩
      | true =>
        rw [if_pos rfl] at HNX
        go_wp2_with (first
          | (go_at_call 76; ((with_reducible refine (AC.out _).mono ?_); rintro e w1 ⟨rfl, b1⟩; have B1 := Lib.hid (bel_alloc (bel_a b1) (MO p)); obtain ⟨y0, y1, y2, y3, y4, y5⟩ := cells6 (heap_alloc_new w1 (MO p)); have RW := Lib.hid ((HR.out.later B1.out).later (alb (w1.alloc (MO p)) (MO p))); have RL := Lib.hid (RE.Rd.lit (E := EG) (w1.alloc (MO p)) 50 [p] #[.int .u8 p.kd, .int .i64 p.sq, .string p.ky, .string p.to, .string p.vl, .int .u64 p.dl] rfl); have BS := Lib.hid (bel_alloc (bel_trans HB.out B1.out) (MO p)); have BQ := Lib.hid (bel_alloc (bel_trans HP.out B1.out) (MO p)); have RL2 : Hid (EG.Rd ((w1.alloc (MO p)).alloc (MO p)) (some ⟨w1.heap.size + 1, 0, none⟩) [p]) := Lib.hid (lit1 _ p (by simp)); clear b1 RL))
          | (at_builtin; refine RE.wpList_put EG _ rfl (.tmp 23) (.tmp 25) rfl (base := (w.alloc (rgc a b)).heap.size) A' m c' _ _ 1 1 [p] rfl rfl RW.out HM.out (by have := HMM.out; omega) BQ.out.size rfl (by omega) RL2.out ?_; intro A2 c2 w2 r1 r2 r3; have R1 := Lib.hid r1; have R2 := Lib.hid r2; clear r1 r2 r3)
          | fail)
        exact ⟨⟨k + 1, A2, c2, m + 1, by omega, by simp, rfl, by rw [HNX.out, List.length_append]; exact congrArg (· + 1) HM.out, by rw [HNX.out]; exact R1.out, BQ.out.trans (RE.Row.below R2.out RW.out (Nat.le_refl _) BQ.out.size)⟩, by simp [intOf]; omega⟩
    · have hk1 : ¬ (k : Int) < (n : Int) := by omega
      have e : xs.take k = xs := List.take_of_length_le (by rw [HL.out]; omega)
      rw [e] at HM HR
      have hm := HM.out
      subst hm
      go_wp2
      go_ret
      exact ⟨⟨_, _, rfl, HR.out.base (by simp)⟩, HB.out⟩
abbrev TV (A : Option Addr) (n c : Nat) (B : Option Addr) (m d : Nat) : Value := .tuple #[.slice A n c, .slice B m d]
end Go.Proofs.YtilnpeekajnlhaaGreat
