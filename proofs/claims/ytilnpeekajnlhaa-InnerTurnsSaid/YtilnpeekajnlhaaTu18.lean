/- Nodes: Split, Unite, Move, where they do. -/
import Derived.Test.YtilnpeekajnlhaaTu17
set_option linter.unusedVariables false
set_option linter.unusedSimpArgs false
namespace Go.Proofs.Ytilnpeekajnlhaa
open Go.RowKit Go.Maps
set_option maxRecDepth 100000 in
set_option maxHeartbeats 4000000 in
theorem split_yes (kd : Int) (P J M B : Option Addr) (n pc k kc m mc bc : Nat) (i v : Nat) (s : ByteArray) (kid : Int) (ps : List ByteArray) (ks : List Int) (ms : List MG) (T : List ByteArray) (w : World) (hl : ps.length = n) (hn : n ≤ 100) (hP : ES.Rd w P ps) (hkl : ks.length = k) (hk1 : k ≤ 100) (hJ : EI.Rd w J ks) (hm : ms.length = m) (hm1 : m ≤ 100) (hM : EG.Rd w M ms) (hv : i + 1 = v) (hik : i < k)
    (PA : ∀ W, Below w.heap.size w W → Calls Try.prog 49 #[.slice P n pc, .int .i64 (i : Int), .string s] W (Pv.PvPost true T W)) :
    Calls Try.prog 19 #[NV kd (.slice P n pc) (.slice J k kc) (.slice M m mc) (.slice B 0 bc), .int .i64 (i : Int), .string s, .int .i64 kid] w (TurnP true kd T (ks.take v ++ [kid] ++ ks.drop v) ms w) := by
  unfold Pv.PvPost at PA
  have HP := Lib.hid PA
  have OA := Lib.hid (fun W (h : Below w.heap.size w W) => own_any kd P J M B n pc k kc m mc bc ps ks ms W hl hkl hm (by omega) (by omega) (by omega) (hP.later h) (hJ.later h) (hM.later h))
  have HKL := Lib.hid hkl
  have HML := Lib.hid hm
  have HK0 := Lib.hid (show 0 < ks.length by omega)
  have HNK := Lib.hid (show (ks.take v ++ [kid] ++ ks.drop v).length = k + 1 by rw [List.length_append, List.length_append, List.length_take, List.length_drop]; simp; omega)
  have h0 : ¬ (i : Int) < 0 := by omega
  have h1 : ¬ (i : Int) ≥ (k : Int) := by omega
  have h2 : (i : Int) < (k : Int) := by omega
  have h3 : IntKind.i64.wrap ((i : Int) + 1) = (v : Int) := by rw [IntWalk.i64_in _ (by omega)]; omega
  have y1 := two_new w (NO kd (.slice P n pc) (.slice J k kc) (.slice M m mc) (.slice B 0 bc)) ZN
  have H0 := Lib.hid (bel_alloc (alb w (NO kd (.slice P n pc) (.slice J k kc) (.slice M m mc) (.slice B 0 bc))) ZN)
  have SZ := Lib.hid (show w.heap.size + 2 ≤ ((w.alloc (NO kd (.slice P n pc) (.slice J k kc) (.slice M m mc) (.slice B 0 bc))).alloc ZN).heap.size by simp)
  have Z := Lib.hid y1.1
  have X := Lib.hid y1.2
  clear y1 PA hl hP hkl hJ hm hM
  obtain ⟨c0, c1, c2, c3, c4⟩ := cells5 Z.out
  go_enter Try.func19, Try.ntmps19
  go_upto_region 7 with (first
    | (go_at_call 49; ((with_reducible refine (HP.out _ H0.out).mono ?_); rintro e w1 ⟨A1, q1, rfl, r1, b⟩; replace SZ := Lib.hid (Nat.le_trans SZ.out b.size); replace H0 := Lib.hid (bel_trans H0.out b); replace Z := Lib.hid (keep_bel b Z.out); replace X := Lib.hid (keep_bel b X.out); have RT := Lib.hid (es_rd.2 r1); have HTN := Lib.hid (tn_of RT.out Z.out X.out); clear b r1 c0 c1 c2 c3 c4; obtain ⟨c0, c1, c2, c3, c4⟩ := cells5 Z.out))
    | (go_at_call 30; ((with_reducible refine (OA.out _ H0.out).mono ?_); rintro e w2 ⟨P2, p2, J2, j2, M2, m2, B2, b2, rfl, rr, b⟩; have RR := Lib.hid rr; replace RT := Lib.hid (RT.out.later b); replace H0 := Lib.hid (bel_trans H0.out b); replace Z := Lib.hid (keep_bel b Z.out); replace X := Lib.hid (keep_bel b X.out); clear b rr c0 c1 c2 c3 c4; obtain ⟨c0, c1, c2, c3, c4⟩ := cells5 Z.out; obtain ⟨f0, f1, f2, f3, f4⟩ := froz5 Z.out))
    | fail)
  generalize hW4 : World.setCell _ _ _ = W4
  have HC4 := Lib.hid (show Chg (fun g => g = w.heap.size) w2 W4 by rw [← hW4]; exact chg5 _ _ _ _ _ _ _)
  have Z4 := Lib.hid (show W4.heap[w.heap.size]? = some (NO kd (.slice P2 n p2) (.slice J2 k j2) (.slice M2 m m2) (.slice B2 0 b2)) from (by rw [← hW4]; exact set5w Z.out _ _ _ _ _))
  have X4 := Lib.hid (show W4.heap[w.heap.size + 1]? = some ZN from keep_chg HC4.out X.out (fun e => by omega))
  have RR4 := Lib.hid (RR.out.chgB HC4.out (by have := SZ.out; omega))
  have RT4 := Lib.hid (rd_chgD RT.out HC4.out (HTN.out.imp id fun q g o s e d => (q g o s e).1 d))
  have H4 := Lib.hid (bel_chg H0.out HC4.out (Nat.le_refl _))
  clear hW4 c0 c1 c2 c3 c4 f0 f1 f2 f3 f4 Z X RR RT H0 HC4
  obtain ⟨c0, c1, c2, c3, c4⟩ := cells5 Z4.out
  have BA := Lib.hid (alb W4 (.cells #[.int .i64 kid] 3))
  have RA := Lib.hid (RR4.out.later BA.out)
  have ZA := Lib.hid (keep_bel BA.out Z4.out)
  have XA := Lib.hid (keep_bel BA.out X4.out)
  have RTA := Lib.hid (RT4.out.later BA.out)
  have NE := Lib.hid (fun y (e : J2 = some ⟨y, 0, none⟩) => (row_blk RR4.out.r2 e HK0.out))
  have IA := Lib.hid (insI_any J2 ks k j2 v w1.heap.size W4.heap.size kid (W4.alloc (.cells #[.int .i64 kid] 3)) HKL.out (by omega) (by omega) (by omega) RA.out.r2 (heap_alloc_new _ _) (fun g e e2 => by have := (NE.out g e).2; obtain ⟨cs, h⟩ := this; have := (Array.getElem?_eq_some_iff.1 h).1; omega))
  have HB := Lib.hid (fun w3 (hc : Chg (fun y => J2 = some ⟨y, 0, none⟩) (W4.alloc (.cells #[.int .i64 kid] 3)) w3) => (H4.out.trans (BA.out.mono H4.out.size)).trans (hc.below (lo := w.heap.size) (fun g e => by have := (NE.out g e).1; have := SZ.out; omega) (by have := H4.out.size; have := BA.out.size; omega)))
  go_upto_region 8 with (first
    | (go_at_call 50; ((with_reducible refine IA.out.mono ?_); rintro e w3 ⟨⟨JN, jn, rfl, rj, nb⟩, hc⟩; have T4 := Lib.hid (T3.put RTA.out HTN.out RA.out SZ.out HK0.out hc rj nb); replace Z4 := Lib.hid (keep_chg hc ZA.out (fun e => by have := (NE.out _ e).1; have := SZ.out; omega)); replace X4 := Lib.hid (keep_chg hc XA.out (fun e => by have := (NE.out _ e).1; have := SZ.out; omega)); replace H4 := Lib.hid (HB.out _ hc); clear hc rj nb c0 c1 c2 c3 c4; obtain ⟨c0, c1, c2, c3, c4⟩ := cells5 Z4.out; obtain ⟨f0, f1, f2, f3, f4⟩ := froz5 Z4.out))
    | fail)
  generalize hW5 : World.setCell _ _ _ = W5
  have HC5 := Lib.hid (show Chg (fun g => g = w.heap.size) w3 W5 by rw [← hW5]; exact (Chg.set (D := fun g => g = w.heap.size) w3 _ rfl).trans (Chg.set (D := fun g => g = w.heap.size) _ _ rfl) (fun g hg => .inl hg))
  have Z5 := Lib.hid (show W5.heap[w.heap.size]? = some (NO kd (.slice A1 T.length q1) (.slice JN (k + 1) jn) (.slice M2 m m2) (.slice B2 0 b2)) from (by rw [← hW5]; exact set5_2 (set5_1 Z4.out _) _))
  have X5 := Lib.hid (show W5.heap[w.heap.size + 1]? = some ZN from keep_chg HC5.out X4.out (fun e => by omega))
  have T5 := Lib.hid (T4.out.chg HC5.out (.inl rfl))
  have H5 := Lib.hid (bel_chg H4.out HC5.out (Nat.le_refl _))
  clear hW5 c0 c1 c2 c3 c4 f0 f1 f2 f3 f4
  obtain ⟨c0, c1, c2, c3, c4⟩ := cells5 Z5.out
  obtain ⟨k0, k1, k2, k3, k4⟩ := cells5 X5.out
  obtain ⟨f0, f1, f2, f3, f4⟩ := froz5 X5.out
  go_wp2
  have X6 := set5w X5.out (.int .u8 kd) (.slice A1 T.length q1) (.slice JN (k + 1) jn) (.slice M2 m m2) (.slice B2 0 b2)
  obtain ⟨k0, k1, k2, k3, k4⟩ := cells5 X6
  refine bodyPost_ret (v := .tuple #[NV kd (.slice A1 T.length q1) (.slice JN (k + 1) jn) (.slice M2 m m2) (.slice B2 0 b2), .bool true]) (by simp [results, Try.results19, go_sem, k0, k1, k2, k3, k4]) rfl ⟨A1, T.length, q1, JN, (k + 1), jn, M2, m, m2, B2, b2, rfl, ⟨rfl, HNK.out, HML.out⟩, ?_, bel_chg H5.out (chg5 _ _ _ _ _ _ _) (by omega)⟩
  have q := T5.out.chg (chg5 W5 (w.heap.size + 1) (.int .u8 kd) (.slice A1 T.length q1) (.slice JN (k + 1) jn) (.slice M2 m m2) (.slice B2 0 b2)) (.inr rfl)
  exact ⟨q.rt, q.rj, q.rm⟩
set_option maxRecDepth 100000 in
set_option maxHeartbeats 4000000 in
theorem unite_yes (kd : Int) (P J M B : Option Addr) (n pc k kc m mc bc : Nat) (i v : Nat) (ps : List ByteArray) (ks : List Int) (ms : List MG) (T : List ByteArray) (w : World) (hl : ps.length = n) (hn : n ≤ 100) (hP : ES.Rd w P ps) (hkl : ks.length = k) (hk1 : k ≤ 100) (hJ : EI.Rd w J ks) (hm : ms.length = m) (hm1 : m ≤ 100) (hM : EG.Rd w M ms) (v2 : Nat) (hv : i + 1 = v) (hv2 : v + 1 = v2) (hik : v < k)
    (PA : ∀ W, Below w.heap.size w W → Calls Try.prog 53 #[.slice P n pc, .int .i64 (i : Int)] W (Pv.PvPost true T W)) :
    Calls Try.prog 21 #[NV kd (.slice P n pc) (.slice J k kc) (.slice M m mc) (.slice B 0 bc), .int .i64 (i : Int)] w (TurnP true kd T (ks.take v ++ ks.drop v2) ms w) := by
  unfold Pv.PvPost at PA
  have HP := Lib.hid PA
  have OA := Lib.hid (fun W (h : Below w.heap.size w W) => own_any kd P J M B n pc k kc m mc bc ps ks ms W hl hkl hm (by omega) (by omega) (by omega) (hP.later h) (hJ.later h) (hM.later h))
  have HKL := Lib.hid hkl
  have HML := Lib.hid hm
  have HK0 := Lib.hid (show 0 < ks.length by omega)
  have HNK := Lib.hid (show (ks.take v ++ ks.drop v2).length = k - 1 by rw [List.length_append, List.length_take, List.length_drop]; omega)
  have h1 : ¬ (v : Int) ≥ (k : Int) := by omega
  have h2 : (v : Int) < (k : Int) := by omega
  have h3 : IntKind.i64.wrap ((i : Int) + 1) = (v : Int) := by rw [IntWalk.i64_in _ (by omega)]; omega
  have h4 : IntKind.i64.wrap ((i : Int) + 2) = (v2 : Int) := by rw [IntWalk.i64_in _ (by omega)]; omega
  have y1 := two_new w (NO kd (.slice P n pc) (.slice J k kc) (.slice M m mc) (.slice B 0 bc)) ZN
  have H0 := Lib.hid (bel_alloc (alb w (NO kd (.slice P n pc) (.slice J k kc) (.slice M m mc) (.slice B 0 bc))) ZN)
  have SZ := Lib.hid (show w.heap.size + 2 ≤ ((w.alloc (NO kd (.slice P n pc) (.slice J k kc) (.slice M m mc) (.slice B 0 bc))).alloc ZN).heap.size by simp)
  have Z := Lib.hid y1.1
  have X := Lib.hid y1.2
  clear y1 PA hl hP hkl hJ hm hM
  obtain ⟨c0, c1, c2, c3, c4⟩ := cells5 Z.out
  go_enter Try.func21, Try.ntmps21
  go_upto_region 5 with (first
    | (go_at_call 53; ((with_reducible refine (HP.out _ H0.out).mono ?_); rintro e w1 ⟨A1, q1, rfl, r1, b⟩; replace SZ := Lib.hid (Nat.le_trans SZ.out b.size); replace H0 := Lib.hid (bel_trans H0.out b); replace Z := Lib.hid (keep_bel b Z.out); replace X := Lib.hid (keep_bel b X.out); have RT := Lib.hid (es_rd.2 r1); have HTN := Lib.hid (tn_of RT.out Z.out X.out); clear b r1 c0 c1 c2 c3 c4; obtain ⟨c0, c1, c2, c3, c4⟩ := cells5 Z.out))
    | (go_at_call 30; ((with_reducible refine (OA.out _ H0.out).mono ?_); rintro e w2 ⟨P2, p2, J2, j2, M2, m2, B2, b2, rfl, rr, b⟩; have HS0 := Lib.hid b.size; have RR := Lib.hid rr; replace RT := Lib.hid (RT.out.later b); replace H0 := Lib.hid (bel_trans H0.out b); replace Z := Lib.hid (keep_bel b Z.out); replace X := Lib.hid (keep_bel b X.out); clear b rr c0 c1 c2 c3 c4; obtain ⟨c0, c1, c2, c3, c4⟩ := cells5 Z.out; obtain ⟨f0, f1, f2, f3, f4⟩ := froz5 Z.out))
    | fail)
  generalize hW4 : World.setCell _ _ _ = W4
  have HC4 := Lib.hid (show Chg (fun g => g = w.heap.size) w2 W4 by rw [← hW4]; exact chg5 _ _ _ _ _ _ _)
  have Z4 := Lib.hid (show W4.heap[w.heap.size]? = some (NO kd (.slice P2 n p2) (.slice J2 k j2) (.slice M2 m m2) (.slice B2 0 b2)) from (by rw [← hW4]; exact set5w Z.out _ _ _ _ _))
  have HS1 := Lib.hid (Nat.le_trans HS0.out HC4.out.size)
  have X4 := Lib.hid (show W4.heap[w.heap.size + 1]? = some ZN from keep_chg HC4.out X.out (fun e => by omega))
  have RR4 := Lib.hid (RR.out.chgB HC4.out (by have := SZ.out; omega))
  have RT4 := Lib.hid (rd_chgD RT.out HC4.out (HTN.out.imp id fun q g o s e d => (q g o s e).1 d))
  have H4 := Lib.hid (bel_chg H0.out HC4.out (Nat.le_refl _))
  clear hW4 c0 c1 c2 c3 c4 f0 f1 f2 f3 f4 Z X RR RT H0 HC4
  obtain ⟨c0, c1, c2, c3, c4⟩ := cells5 Z4.out
  have NE := Lib.hid (fun y (e : J2 = some ⟨y, 0, none⟩) => (row_blk RR4.out.r2 e HK0.out))
  have IA := delI_any J2 ks k j2 v w1.heap.size W4 HKL.out (by omega) RR4.out.r2 HS1.out
  rw [hv2] at IA
  replace IA := Lib.hid IA
  have HB := Lib.hid (fun w3 (hc : Chg (fun y => J2 = some ⟨y, 0, none⟩) W4 w3) => H4.out.trans (hc.below (lo := w.heap.size) (fun g e => by have := (NE.out g e).1; have := SZ.out; omega) H4.out.size))
  go_upto_region 6 with (first
    | (go_at_call 54; ((with_reducible refine IA.out.mono ?_); rintro e w3 ⟨⟨JN, jn, rfl, rj, nb⟩, hc⟩; have T4 := Lib.hid (T3.put RT4.out HTN.out RR4.out SZ.out HK0.out hc rj nb); replace Z4 := Lib.hid (keep_chg hc Z4.out (fun e => by have := (NE.out _ e).1; have := SZ.out; omega)); replace X4 := Lib.hid (keep_chg hc X4.out (fun e => by have := (NE.out _ e).1; have := SZ.out; omega)); replace H4 := Lib.hid (HB.out _ hc); clear hc rj nb c0 c1 c2 c3 c4; obtain ⟨c0, c1, c2, c3, c4⟩ := cells5 Z4.out; obtain ⟨f0, f1, f2, f3, f4⟩ := froz5 Z4.out))
    | fail)
  generalize hW5 : World.setCell _ _ _ = W5
  have HC5 := Lib.hid (show Chg (fun g => g = w.heap.size) w3 W5 by rw [← hW5]; exact (Chg.set (D := fun g => g = w.heap.size) w3 _ rfl).trans (Chg.set (D := fun g => g = w.heap.size) _ _ rfl) (fun g hg => .inl hg))
  have Z5 := Lib.hid (show W5.heap[w.heap.size]? = some (NO kd (.slice A1 T.length q1) (.slice JN (k - 1) jn) (.slice M2 m m2) (.slice B2 0 b2)) from (by rw [← hW5]; exact set5_2 (set5_1 Z4.out _) _))
  have X5 := Lib.hid (show W5.heap[w.heap.size + 1]? = some ZN from keep_chg HC5.out X4.out (fun e => by omega))
  have T5 := Lib.hid (T4.out.chg HC5.out (.inl rfl))
  have H5 := Lib.hid (bel_chg H4.out HC5.out (Nat.le_refl _))
  clear hW5 c0 c1 c2 c3 c4 f0 f1 f2 f3 f4
  obtain ⟨c0, c1, c2, c3, c4⟩ := cells5 Z5.out
  obtain ⟨k0, k1, k2, k3, k4⟩ := cells5 X5.out
  obtain ⟨f0, f1, f2, f3, f4⟩ := froz5 X5.out
  go_wp2
  have X6 := set5w X5.out (.int .u8 kd) (.slice A1 T.length q1) (.slice JN (k - 1) jn) (.slice M2 m m2) (.slice B2 0 b2)
  obtain ⟨k0, k1, k2, k3, k4⟩ := cells5 X6
  refine bodyPost_ret (v := .tuple #[NV kd (.slice A1 T.length q1) (.slice JN (k - 1) jn) (.slice M2 m m2) (.slice B2 0 b2), .bool true]) (by simp [results, Try.results21, go_sem, k0, k1, k2, k3, k4]) rfl ⟨A1, T.length, q1, JN, (k - 1), jn, M2, m, m2, B2, b2, rfl, ⟨rfl, HNK.out, HML.out⟩, ?_, bel_chg H5.out (chg5 _ _ _ _ _ _ _) (by omega)⟩
  have q := T5.out.chg (chg5 W5 (w.heap.size + 1) (.int .u8 kd) (.slice A1 T.length q1) (.slice JN (k - 1) jn) (.slice M2 m m2) (.slice B2 0 b2)) (.inr rfl)
  exact ⟨q.rt, q.rj, q.rm⟩
set_option maxRecDepth 100000 in
set_option maxHeartbeats 4000000 in
theorem move_yes (kd : Int) (P J M B : Option Addr) (n pc k kc m mc bc : Nat) (i v : Nat) (s : ByteArray) (ps : List ByteArray) (ks : List Int) (ms : List MG) (T : List ByteArray) (w : World) (hl : ps.length = n) (hn : n ≤ 100) (hP : ES.Rd w P ps) (hkl : ks.length = k) (hk1 : k ≤ 100) (hJ : EI.Rd w J ks) (hm : ms.length = m) (hm1 : m ≤ 100) (hM : EG.Rd w M ms)
    (PA : ∀ W, Below w.heap.size w W → Calls Try.prog 56 #[.slice P n pc, .int .i64 (i : Int), .string s] W (Pv.PvPost true T W)) :
    Calls Try.prog 23 #[NV kd (.slice P n pc) (.slice J k kc) (.slice M m mc) (.slice B 0 bc), .int .i64 (i : Int), .string s] w (TurnP true kd T ks ms w) := by
  unfold Pv.PvPost at PA
  have HP := Lib.hid PA
  have OA := Lib.hid (fun W (h : Below w.heap.size w W) => own_any kd P J M B n pc k kc m mc bc ps ks ms W hl hkl hm (by omega) (by omega) (by omega) (hP.later h) (hJ.later h) (hM.later h))
  have HKL := Lib.hid hkl
  have HML := Lib.hid hm
  have HNK := Lib.hid hkl
  have y1 := two_new w (NO kd (.slice P n pc) (.slice J k kc) (.slice M m mc) (.slice B 0 bc)) ZN
  have H0 := Lib.hid (bel_alloc (alb w (NO kd (.slice P n pc) (.slice J k kc) (.slice M m mc) (.slice B 0 bc))) ZN)
  have SZ := Lib.hid (show w.heap.size + 2 ≤ ((w.alloc (NO kd (.slice P n pc) (.slice J k kc) (.slice M m mc) (.slice B 0 bc))).alloc ZN).heap.size by simp)
  have Z := Lib.hid y1.1
  have X := Lib.hid y1.2
  clear y1 PA hl hP hkl hJ hm hM
  obtain ⟨c0, c1, c2, c3, c4⟩ := cells5 Z.out
  go_enter Try.func23, Try.ntmps23
  go_upto_region 5 with (first
    | (go_at_call 56; ((with_reducible refine (HP.out _ H0.out).mono ?_); rintro e w1 ⟨A1, q1, rfl, r1, b⟩; replace SZ := Lib.hid (Nat.le_trans SZ.out b.size); replace H0 := Lib.hid (bel_trans H0.out b); replace Z := Lib.hid (keep_bel b Z.out); replace X := Lib.hid (keep_bel b X.out); have RT := Lib.hid (es_rd.2 r1); have HTN := Lib.hid (tn_of RT.out Z.out X.out); clear b r1 c0 c1 c2 c3 c4; obtain ⟨c0, c1, c2, c3, c4⟩ := cells5 Z.out))
    | (go_at_call 30; ((with_reducible refine (OA.out _ H0.out).mono ?_); rintro e w2 ⟨P2, p2, J2, j2, M2, m2, B2, b2, rfl, rr, b⟩; have RR := Lib.hid rr; replace RT := Lib.hid (RT.out.later b); replace H0 := Lib.hid (bel_trans H0.out b); replace Z := Lib.hid (keep_bel b Z.out); replace X := Lib.hid (keep_bel b X.out); clear b rr c0 c1 c2 c3 c4; obtain ⟨c0, c1, c2, c3, c4⟩ := cells5 Z.out; obtain ⟨f0, f1, f2, f3, f4⟩ := froz5 Z.out))
    | fail)
  generalize hW4 : World.setCell _ _ _ = W4
  have HC4 := Lib.hid (show Chg (fun g => g = w.heap.size) w2 W4 by rw [← hW4]; exact chg5 _ _ _ _ _ _ _)
  have Z4 := Lib.hid (show W4.heap[w.heap.size]? = some (NO kd (.slice P2 n p2) (.slice J2 k j2) (.slice M2 m m2) (.slice B2 0 b2)) from (by rw [← hW4]; exact set5w Z.out _ _ _ _ _))
  have X4 := Lib.hid (show W4.heap[w.heap.size + 1]? = some ZN from keep_chg HC4.out X.out (fun e => by omega))
  have RR4 := Lib.hid (RR.out.chgB HC4.out (by have := SZ.out; omega))
  have RT4 := Lib.hid (rd_chgD RT.out HC4.out (HTN.out.imp id fun q g o s e d => (q g o s e).1 d))
  have H4 := Lib.hid (bel_chg H0.out HC4.out (Nat.le_refl _))
  clear hW4 c0 c1 c2 c3 c4 f0 f1 f2 f3 f4 Z X RR RT H0 HC4
  obtain ⟨c0, c1, c2, c3, c4⟩ := cells5 Z4.out
  have T4 := Lib.hid (T3.own RT4.out HTN.out RR4.out SZ.out)
  obtain ⟨f0, f1, f2, f3, f4⟩ := froz5 Z4.out
  go_upto_region 6 with (first
    | fail)
  generalize hW5 : World.setCell _ _ _ = W5
  have HC5 := Lib.hid (show Chg (fun g => g = w.heap.size) W4 W5 by rw [← hW5]; exact Chg.set _ _ rfl)
  have Z5 := Lib.hid (show W5.heap[w.heap.size]? = some (NO kd (.slice A1 T.length q1) (.slice J2 k j2) (.slice M2 m m2) (.slice B2 0 b2)) from (by rw [← hW5]; exact set5_1 Z4.out _))
  have X5 := Lib.hid (show W5.heap[w.heap.size + 1]? = some ZN from keep_chg HC5.out X4.out (fun e => by omega))
  have T5 := Lib.hid (T4.out.chg HC5.out (.inl rfl))
  have H5 := Lib.hid (bel_chg H4.out HC5.out (Nat.le_refl _))
  clear hW5 c0 c1 c2 c3 c4 f0 f1 f2 f3 f4
  obtain ⟨c0, c1, c2, c3, c4⟩ := cells5 Z5.out
  obtain ⟨k0, k1, k2, k3, k4⟩ := cells5 X5.out
  obtain ⟨f0, f1, f2, f3, f4⟩ := froz5 X5.out
  go_wp2
  have X6 := set5w X5.out (.int .u8 kd) (.slice A1 T.length q1) (.slice J2 k j2) (.slice M2 m m2) (.slice B2 0 b2)
  obtain ⟨k0, k1, k2, k3, k4⟩ := cells5 X6
  refine bodyPost_ret (v := .tuple #[NV kd (.slice A1 T.length q1) (.slice J2 k j2) (.slice M2 m m2) (.slice B2 0 b2), .bool true]) (by simp [results, Try.results23, go_sem, k0, k1, k2, k3, k4]) rfl ⟨A1, T.length, q1, J2, k, j2, M2, m, m2, B2, b2, rfl, ⟨rfl, HNK.out, HML.out⟩, ?_, bel_chg H5.out (chg5 _ _ _ _ _ _ _) (by omega)⟩
  have q := T5.out.chg (chg5 W5 (w.heap.size + 1) (.int .u8 kd) (.slice A1 T.length q1) (.slice J2 k j2) (.slice M2 m m2) (.slice B2 0 b2)) (.inr rfl)
  exact ⟨q.rt, q.rj, q.rm⟩
end Go.Proofs.Ytilnpeekajnlhaa
