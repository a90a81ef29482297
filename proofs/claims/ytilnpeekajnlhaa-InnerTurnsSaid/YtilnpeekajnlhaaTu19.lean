/- Nodes: the document's Split, Unite, Move. -/
import Derived.Test.YtilnpeekajnlhaaTu02
import Derived.Test.YtilnpeekajnlhaaTu18
set_option linter.unusedVariables false
set_option linter.unusedSimpArgs false
namespace Go.Proofs.Ytilnpeekajnlhaa
open Go.RowKit Go.Maps
/-- A row of numbers does not lie in a node's box. -/
theorem int_off {W : World} {A : Option Addr} {T : List Int} {N : Nat} {kd : Int} {b1 b2 b3 b4 : Option Addr} {n1 n2 n3 n4 c1 c2 c3 c4 : Nat} {t : TypeId} (h : EI.Rd W A T) (z : W.heap[N]? = some (.cells #[.int .u8 kd, .slice b1 n1 c1, .slice b2 n2 c2, .slice b3 n3 c3, .slice b4 n4 c4] t (0, 0))) : T = [] ∨ ∀ g o s, A = some ⟨g, o, s⟩ → g ≠ N := by
  cases T with
  | nil => exact .inl rfl
  | cons x xs =>
    right
    rintro g o s rfl e
    subst e
    rcases h with h | ⟨b, off, e, hb, hv⟩
    · have := EI.all_empty h
      cases this
    · cases e
      have q := hv 0 (.int .i64 x) (by rw [RE.all_cons]; rfl)
      simp only [Nat.add_zero, World.cell?, z] at q
      match o, q with
      | 0, q => simp at q
      | 1, q => simp at q
      | 2, q => simp at q
      | 3, q => simp at q
      | 4, q => simp at q
      | (j + 5), q => simp at q
theorem rd_low {α : Type} {E : RE α} {W : World} {A : Option Addr} {l : List α} {lo : Nat} (h : E.Rd W A l) (hl : W.heap.size = lo) : l = [] ∨ ∀ g o s, A = some ⟨g, o, s⟩ → g ≠ lo ∧ g ≠ lo + 1 := by
  rcases h with h | ⟨b, off, rfl, hb, hv⟩
  · exact .inl (E.all_empty h)
  · exact .inr fun g o s e => by cases e; omega
theorem both_off {α : Type} {A : Option Addr} {l : List α} {lo : Nat} (h : l = [] ∨ ∀ g o s, A = some ⟨g, o, s⟩ → g ≠ lo) (k : l = [] ∨ ∀ g o s, A = some ⟨g, o, s⟩ → g ≠ lo + 1) : l = [] ∨ ∀ g o s, A = some ⟨g, o, s⟩ → g ≠ lo ∧ g ≠ lo + 1 := by
  rcases h with h | h
  · exact .inl h
  · exact k.imp id fun q g o s e => ⟨h g o s e, q g o s e⟩
theorem TN.off {lo N : Nat} {A : Option Addr} {T : List ByteArray} (h : TN lo N A T) : T = [] ∨ ∀ g o s, A = some ⟨g, o, s⟩ → g ≠ lo ∧ g ≠ lo + 1 := h.imp id fun q g o s e => ⟨(q g o s e).1, (q g o s e).2.1⟩
theorem kids_eq (ks : List Int) (i v : Nat) (x kid : Int) (hv : i + 1 = v) (hx : ks[i]? = some x) : ks.take i ++ [x, kid] ++ ks.drop v = ks.take v ++ [kid] ++ ks.drop v := by
  subst hv
  rw [List.take_add_one, hx]
  simp
theorem kids_eq2 (ks : List Int) (i v v2 : Nat) (x : Int) (hv : i + 1 = v) (hx : ks[i]? = some x) : ks.take i ++ [x] ++ ks.drop v2 = ks.take v ++ ks.drop v2 := by
  subst hv
  rw [List.take_add_one, hx]
  simp
set_option maxRecDepth 100000 in
set_option maxHeartbeats 4000000 in
theorem rsplit_no (kd : Int) (P J M B : Option Addr) (n pc k kc m mc bc : Nat) (i : Int) (s : ByteArray) (kid : Int) (w : World) (PA : ∀ W, Below w.heap.size w W → Calls Try.prog 51 #[.slice P n pc, .int .i64 i, .string s] W (Pv.PvPost false [] W)) :
    Calls Try.prog 20 #[NV kd (.slice P n pc) (.slice J k kc) (.slice M m mc) (.slice B 0 bc), .int .i64 i, .string s, .int .i64 kid] w (TurnP false 0 [] [] [] w) := by
  unfold Pv.PvPost at PA
  have HP := Lib.hid PA
  clear PA
  have y1 := two_new w (NO kd (.slice P n pc) (.slice J k kc) (.slice M m mc) (.slice B 0 bc)) ZN
  have H0 := Lib.hid (bel_alloc (alb w (NO kd (.slice P n pc) (.slice J k kc) (.slice M m mc) (.slice B 0 bc))) ZN)
  have Z := Lib.hid y1.1
  have X := Lib.hid y1.2
  clear y1
  obtain ⟨c0, c1, c2, c3, c4⟩ := cells5 Z.out
  obtain ⟨x0, x1, x2, x3, x4⟩ := cells5 X.out
  obtain ⟨f0, f1, f2, f3, f4⟩ := froz5 X.out
  go_enter Try.func20, Try.ntmps20
  go_wp2_with (first
    | (go_at_call 51; ((with_reducible refine (HP.out _ H0.out).mono ?_); rintro e w1 ⟨A1, q1, rfl, r1, b⟩; replace H0 := Lib.hid (bel_trans H0.out b); replace Z := Lib.hid (keep_bel b Z.out); replace X := Lib.hid (keep_bel b X.out); clear b r1 c0 c1 c2 c3 c4 x0 x1 x2 x3 x4 f0 f1 f2 f3 f4; obtain ⟨c0, c1, c2, c3, c4⟩ := cells5 Z.out; obtain ⟨x0, x1, x2, x3, x4⟩ := cells5 X.out; obtain ⟨f0, f1, f2, f3, f4⟩ := froz5 X.out))
    | fail)
  generalize hW5 : World.setCell _ _ _ = W5
  have HC5 := Lib.hid (show Chg (fun g => g = w.heap.size + 1) _ W5 by rw [← hW5]; exact chg5 _ _ _ _ _ _ _)
  have X5 := Lib.hid (show W5.heap[w.heap.size + 1]? = some ZN from (by rw [← hW5]; exact set5w X.out _ _ _ _ _))
  clear hW5 x0 x1 x2 x3 x4
  obtain ⟨x0, x1, x2, x3, x4⟩ := cells5 X5.out
  refine bodyPost_ret (v := .tuple #[NV 0 (.slice none 0 0) (.slice none 0 0) (.slice none 0 0) (.slice none 0 0), .bool false]) (by simp [results, Try.results20, go_sem, x0, x1, x2, x3, x4]) rfl ⟨none, 0, 0, none, 0, 0, none, 0, 0, none, 0, rfl, ⟨rfl, rfl, rfl⟩, ⟨.inl rfl, .inl rfl, .inl rfl⟩, bel_chg H0.out HC5.out (by omega)⟩
set_option maxRecDepth 100000 in
set_option maxHeartbeats 4000000 in
theorem runite_no (kd : Int) (P J M B : Option Addr) (n pc k kc m mc bc : Nat) (i : Int) (w : World) (PA : ∀ W, Below w.heap.size w W → Calls Try.prog 55 #[.slice P n pc, .int .i64 i] W (Pv.PvPost false [] W)) :
    Calls Try.prog 22 #[NV kd (.slice P n pc) (.slice J k kc) (.slice M m mc) (.slice B 0 bc), .int .i64 i] w (TurnP false 0 [] [] [] w) := by
  unfold Pv.PvPost at PA
  have HP := Lib.hid PA
  clear PA
  have y1 := two_new w (NO kd (.slice P n pc) (.slice J k kc) (.slice M m mc) (.slice B 0 bc)) ZN
  have H0 := Lib.hid (bel_alloc (alb w (NO kd (.slice P n pc) (.slice J k kc) (.slice M m mc) (.slice B 0 bc))) ZN)
  have Z := Lib.hid y1.1
  have X := Lib.hid y1.2
  clear y1
  obtain ⟨c0, c1, c2, c3, c4⟩ := cells5 Z.out
  obtain ⟨x0, x1, x2, x3, x4⟩ := cells5 X.out
  obtain ⟨f0, f1, f2, f3, f4⟩ := froz5 X.out
  go_enter Try.func22, Try.ntmps22
  go_wp2_with (first
    | (go_at_call 55; ((with_reducible refine (HP.out _ H0.out).mono ?_); rintro e w1 ⟨A1, q1, rfl, r1, b⟩; replace H0 := Lib.hid (bel_trans H0.out b); replace Z := Lib.hid (keep_bel b Z.out); replace X := Lib.hid (keep_bel b X.out); clear b r1 c0 c1 c2 c3 c4 x0 x1 x2 x3 x4 f0 f1 f2 f3 f4; obtain ⟨c0, c1, c2, c3, c4⟩ := cells5 Z.out; obtain ⟨x0, x1, x2, x3, x4⟩ := cells5 X.out; obtain ⟨f0, f1, f2, f3, f4⟩ := froz5 X.out))
    | fail)
  generalize hW5 : World.setCell _ _ _ = W5
  have HC5 := Lib.hid (show Chg (fun g => g = w.heap.size + 1) _ W5 by rw [← hW5]; exact chg5 _ _ _ _ _ _ _)
  have X5 := Lib.hid (show W5.heap[w.heap.size + 1]? = some ZN from (by rw [← hW5]; exact set5w X.out _ _ _ _ _))
  clear hW5 x0 x1 x2 x3 x4
  obtain ⟨x0, x1, x2, x3, x4⟩ := cells5 X5.out
  refine bodyPost_ret (v := .tuple #[NV 0 (.slice none 0 0) (.slice none 0 0) (.slice none 0 0) (.slice none 0 0), .bool false]) (by simp [results, Try.results22, go_sem, x0, x1, x2, x3, x4]) rfl ⟨none, 0, 0, none, 0, 0, none, 0, 0, none, 0, rfl, ⟨rfl, rfl, rfl⟩, ⟨.inl rfl, .inl rfl, .inl rfl⟩, bel_chg H0.out HC5.out (by omega)⟩
set_option maxRecDepth 100000 in
set_option maxHeartbeats 4000000 in
theorem rmove_no (kd : Int) (P J M B : Option Addr) (n pc k kc m mc bc : Nat) (i : Int) (s : ByteArray) (w : World) (PA : ∀ W, Below w.heap.size w W → Calls Try.prog 57 #[.slice P n pc, .int .i64 i, .string s] W (Pv.PvPost false [] W)) :
    Calls Try.prog 24 #[NV kd (.slice P n pc) (.slice J k kc) (.slice M m mc) (.slice B 0 bc), .int .i64 i, .string s] w (TurnP false 0 [] [] [] w) := by
  unfold Pv.PvPost at PA
  have HP := Lib.hid PA
  clear PA
  have y1 := two_new w (NO kd (.slice P n pc) (.slice J k kc) (.slice M m mc) (.slice B 0 bc)) ZN
  have H0 := Lib.hid (bel_alloc (alb w (NO kd (.slice P n pc) (.slice J k kc) (.slice M m mc) (.slice B 0 bc))) ZN)
  have Z := Lib.hid y1.1
  have X := Lib.hid y1.2
  clear y1
  obtain ⟨c0, c1, c2, c3, c4⟩ := cells5 Z.out
  obtain ⟨x0, x1, x2, x3, x4⟩ := cells5 X.out
  obtain ⟨f0, f1, f2, f3, f4⟩ := froz5 X.out
  go_enter Try.func24, Try.ntmps24
  go_wp2_with (first
    | (go_at_call 57; ((with_reducible refine (HP.out _ H0.out).mono ?_); rintro e w1 ⟨A1, q1, rfl, r1, b⟩; replace H0 := Lib.hid (bel_trans H0.out b); replace Z := Lib.hid (keep_bel b Z.out); replace X := Lib.hid (keep_bel b X.out); clear b r1 c0 c1 c2 c3 c4 x0 x1 x2 x3 x4 f0 f1 f2 f3 f4; obtain ⟨c0, c1, c2, c3, c4⟩ := cells5 Z.out; obtain ⟨x0, x1, x2, x3, x4⟩ := cells5 X.out; obtain ⟨f0, f1, f2, f3, f4⟩ := froz5 X.out))
    | fail)
  generalize hW5 : World.setCell _ _ _ = W5
  have HC5 := Lib.hid (show Chg (fun g => g = w.heap.size + 1) _ W5 by rw [← hW5]; exact chg5 _ _ _ _ _ _ _)
  have X5 := Lib.hid (show W5.heap[w.heap.size + 1]? = some ZN from (by rw [← hW5]; exact set5w X.out _ _ _ _ _))
  clear hW5 x0 x1 x2 x3 x4
  obtain ⟨x0, x1, x2, x3, x4⟩ := cells5 X5.out
  refine bodyPost_ret (v := .tuple #[NV 0 (.slice none 0 0) (.slice none 0 0) (.slice none 0 0) (.slice none 0 0), .bool false]) (by simp [results, Try.results24, go_sem, x0, x1, x2, x3, x4]) rfl ⟨none, 0, 0, none, 0, 0, none, 0, 0, none, 0, rfl, ⟨rfl, rfl, rfl⟩, ⟨.inl rfl, .inl rfl, .inl rfl⟩, bel_chg H0.out HC5.out (by omega)⟩
set_option maxRecDepth 100000 in
set_option maxHeartbeats 4000000 in
theorem rsplit_yes (kd : Int) (P J M B : Option Addr) (n pc k kc m mc bc : Nat) (i : Nat) (v : Nat) (s : ByteArray) (kid x : Int) (ps : List ByteArray) (ks : List Int) (ms : List MG) (T : List ByteArray) (w : World) (hkl : ks.length = k) (hk1 : k ≤ 100) (hJ : EI.Rd w J ks) (hm : ms.length = m) (hM : EG.Rd w M ms) (hkc : k ≤ kc) (hv : i + 1 = v) (hik : i < k) (hx : ks[i]? = some x)
    (PA : ∀ W, Below w.heap.size w W → Calls Try.prog 51 #[.slice P n pc, .int .i64 (i : Int), .string s] W (Pv.PvPost true T W)) :
    Calls Try.prog 20 #[NV kd (.slice P n pc) (.slice J k kc) (.slice M m mc) (.slice B 0 bc), .int .i64 (i : Int), .string s, .int .i64 kid] w (TurnP true kd T (ks.take v ++ [kid] ++ ks.drop v) ms w) := by
  unfold Pv.PvPost at PA
  have HP := Lib.hid PA
  have HKL := Lib.hid hkl
  have HML := Lib.hid hm
  have HM := Lib.hid hM
  obtain ⟨bj, oj, rfl, hbj, cx⟩ := ei_at hJ hx
  have HBJ := Lib.hid hbj
  have HJ := Lib.hid hJ
  have XC := Lib.hid (fun V (h : Below w.heap.size w V) => (show V.cell? ⟨bj, oj + i, none⟩ = some (.int .i64 x) from (by obtain ⟨b2, o2, e, -, c2⟩ := ei_at (hJ.later h) hx; cases e; exact c2)))
  have HX := Lib.hid hx
  clear cx hx hbj
  have HNK := Lib.hid (show (ks.take v ++ [kid] ++ ks.drop v).length = i + 2 + (k - v) by rw [List.length_append, List.length_append, List.length_take, List.length_drop]; simp; omega)
  have i0 : (0 : Int) ≤ (i : Int) := by omega
  have i1 : ¬ (k : Int) ≤ (i : Int) := by omega
  have i2 : (i : Int) < (k : Int) := by omega
  have y1 := two_new w (NO kd (.slice P n pc) (.slice (some ⟨bj, oj, none⟩) k kc) (.slice M m mc) (.slice B 0 bc)) ZN
  have H0 := Lib.hid (bel_alloc (alb w (NO kd (.slice P n pc) (.slice (some ⟨bj, oj, none⟩) k kc) (.slice M m mc) (.slice B 0 bc))) ZN)
  have Z := Lib.hid y1.1
  have X := Lib.hid y1.2
  clear y1 PA hkl hJ hm hM
  obtain ⟨c0, c1, c2, c3, c4⟩ := cells5 Z.out
  go_enter Try.func20, Try.ntmps20
  go_upto_region 4 with (first
    | (go_at_call 51; ((with_reducible refine (HP.out _ H0.out).mono ?_); rintro e w1 ⟨A1, q1, rfl, r1, b⟩; replace H0 := Lib.hid (bel_trans H0.out b); replace Z := Lib.hid (keep_bel b Z.out); replace X := Lib.hid (keep_bel b X.out); have RT := Lib.hid (es_rd.2 r1); have HTN := Lib.hid (tn_of RT.out Z.out X.out); clear b r1 c0 c1 c2 c3 c4; obtain ⟨c0, c1, c2, c3, c4⟩ := cells5 Z.out))
    | fail)
  have K0 := Lib.hid (show SK w1 [(w.heap.size, (NO kd (.slice P n pc) (.slice (some ⟨bj, oj, none⟩) k kc) (.slice M m mc) (.slice B 0 bc))), (w.heap.size + 1, ZN)] w1.drew from SK.start (by intro p hp; simp only [List.mem_cons, List.not_mem_nil, or_false] at hp; rcases hp with rfl | rfl; exact Z.out; exact X.out))
  have KS := Lib.hid (fun V (h : SK w1 [(w.heap.size, (NO kd (.slice P n pc) (.slice (some ⟨bj, oj, none⟩) k kc) (.slice M m mc) (.slice B 0 bc))), (w.heap.size + 1, ZN)] V) => (⟨h.g 0 rfl, XC.out V (bel_trans H0.out h.b)⟩ : V.heap[w.heap.size]? = some (NO kd (.slice P n pc) (.slice (some ⟨bj, oj, none⟩) k kc) (.slice M m mc) (.slice B 0 bc)) ∧ V.cell? ⟨bj, oj + i, none⟩ = some (.int .i64 x)))
  refine wp_region_held_drew (S := (fun V : World => V.heap[w.heap.size]? = some (NO kd (.slice P n pc) (.slice (some ⟨bj, oj, none⟩) k kc) (.slice M m mc) (.slice B 0 bc)) ∧ V.cell? ⟨bj, oj + i, none⟩ = some (.int .i64 x))) (by kernel_rfl) ?_ (fun hHeld => ?_)
  · exact KS.out _ K0.out
  have HHeld := Lib.hid hHeld; clear hHeld
  refine wT (i := 0) (oi := { dst := some 30, op := Op.fieldAddr 28 (Operand.tmp 4) 0, type := 0, pos := "ref.go:100", after := #[], guard := none }) (v := ?_) rfl (Or.inl ⟨by rfl, ?_⟩) HHeld.out ?_
  rotate_left
  · intro w hSw; clear hSw; go_simp; try with_reducible rfl
  try simp only [pu, pn, s1, s2, s3]
  refine wT (i := 1) (oi := { dst := some 31, op := Op.load 22 (Operand.tmp 30), type := 22, pos := "ref.go:100", after := #[{ on := 0, ground := Ground.data }], guard := none }) (v := (.int .u8 kd : Value)) rfl (Or.inl ⟨by rfl, ?_⟩) HHeld.out ?_
  · intro V hV; have hc0 := (cells5 hV.1).1; clear hV; go_simp
  try simp only [pu, pn, s1, s2, s3]
  refine wT (i := 2) (oi := { dst := some 32, op := Op.move (Operand.tmp 10), type := 23, pos := "ref.go:100", after := #[], guard := none }) (v := ?_) rfl (Or.inl ⟨by rfl, ?_⟩) HHeld.out ?_
  rotate_left
  · intro w hSw; clear hSw; go_simp; try with_reducible rfl
  try simp only [pu, pn, s1, s2, s3]
  refine wT (i := 3) (oi := { dst := some 33, op := Op.fieldAddr 28 (Operand.tmp 4) 2, type := 0, pos := "ref.go:100", after := #[], guard := none }) (v := ?_) rfl (Or.inl ⟨by rfl, ?_⟩) HHeld.out ?_
  rotate_left
  · intro w hSw; clear hSw; go_simp; try with_reducible rfl
  try simp only [pu, pn, s1, s2, s3]
  refine wT (i := 4) (oi := { dst := some 34, op := Op.load 24 (Operand.tmp 33), type := 24, pos := "ref.go:100", after := #[{ on := 3, ground := Ground.data }], guard := none }) (v := (.slice (some ⟨bj, oj, none⟩) k kc : Value)) rfl (Or.inl ⟨by rfl, ?_⟩) HHeld.out ?_
  · intro V hV; have hc0 := (cells5 hV.1).2.2.1; clear hV; go_simp
  try simp only [pu, pn, s1, s2, s3]
  refine wT (i := 5) (oi := { dst := some 35, op := Op.move (Operand.tmp 1), type := 3, pos := "ref.go:100", after := #[], guard := none }) (v := ?_) rfl (Or.inl ⟨by rfl, ?_⟩) HHeld.out ?_
  rotate_left
  · intro w hSw; clear hSw; go_simp; try with_reducible rfl
  try simp only [pu, pn, s1, s2, s3]
  refine wT (i := 6) (oi := { dst := some 36, op := Op.fieldAddr 28 (Operand.tmp 4) 2, type := 0, pos := "ref.go:100", after := #[], guard := none }) (v := ?_) rfl (Or.inl ⟨by rfl, ?_⟩) HHeld.out ?_
  rotate_left
  · intro w hSw; clear hSw; go_simp; try with_reducible rfl
  try simp only [pu, pn, s1, s2, s3]
  refine wT (i := 7) (oi := { dst := some 37, op := Op.load 24 (Operand.tmp 36), type := 24, pos := "ref.go:100", after := #[{ on := 6, ground := Ground.data }], guard := none }) (v := (.slice (some ⟨bj, oj, none⟩) k kc : Value)) rfl (Or.inl ⟨by rfl, ?_⟩) HHeld.out ?_
  · intro V hV; have hc0 := (cells5 hV.1).2.2.1; clear hV; go_simp
  try simp only [pu, pn, s1, s2, s3]
  refine wT (i := 8) (oi := { dst := some 38, op := Op.move (Operand.tmp 1), type := 3, pos := "ref.go:100", after := #[], guard := none }) (v := ?_) rfl (Or.inl ⟨by rfl, ?_⟩) HHeld.out ?_
  rotate_left
  · intro w hSw; clear hSw; go_simp; try with_reducible rfl
  try simp only [pu, pn, s1, s2, s3]
  refine wT (i := 9) (oi := { dst := some 39, op := Op.indexAddr 24 (Operand.tmp 37) (Operand.tmp 38), type := 0, pos := "ref.go:100", after := #[{ on := 7, ground := Ground.data }, { on := 8, ground := Ground.data }], guard := none }) (v := ?_) rfl (Or.inl ⟨by rfl, ?_⟩) HHeld.out ?_
  rotate_left
  · intro w hSw; clear hSw; go_simp; try with_reducible rfl
  try simp only [pu, pn, s1, s2, s3]
  refine wT (i := 10) (oi := { dst := some 40, op := Op.load 3 (Operand.tmp 39), type := 3, pos := "ref.go:100", after := #[{ on := 9, ground := Ground.data }], guard := none }) (v := (.int .i64 x : Value)) rfl (Or.inl ⟨by rfl, ?_⟩) HHeld.out ?_
  · intro V hV; have hc0 := hV.2; clear hV; go_simp
  try simp only [pu, pn, s1, s2, s3]
  refine wT (i := 11) (oi := { dst := some 41, op := Op.move (Operand.tmp 3), type := 3, pos := "ref.go:100", after := #[], guard := none }) (v := ?_) rfl (Or.inl ⟨by rfl, ?_⟩) HHeld.out ?_
  rotate_left
  · intro w hSw; clear hSw; go_simp; try with_reducible rfl
  try simp only [pu, pn, s1, s2, s3]
  refine wT (i := 14) (oi := { dst := some 44, op := Op.fieldAddr 28 (Operand.tmp 4) 3, type := 0, pos := "ref.go:100", after := #[], guard := none }) (v := ?_) rfl (Or.inl ⟨by rfl, ?_⟩) HHeld.out ?_
  rotate_left
  · intro w hSw; clear hSw; go_simp; try with_reducible rfl
  try simp only [pu, pn, s1, s2, s3]
  refine wT (i := 15) (oi := { dst := some 45, op := Op.load 25 (Operand.tmp 44), type := 25, pos := "ref.go:100", after := #[{ on := 14, ground := Ground.data }], guard := none }) (v := (.slice M m mc : Value)) rfl (Or.inl ⟨by rfl, ?_⟩) HHeld.out ?_
  · intro V hV; have hc0 := (cells5 hV.1).2.2.2.1; clear hV; go_simp
  try simp only [pu, pn, s1, s2, s3]
  refine wT (i := 16) (oi := { dst := some 46, op := Op.fieldAddr 28 (Operand.tmp 4) 4, type := 0, pos := "ref.go:100", after := #[], guard := none }) (v := ?_) rfl (Or.inl ⟨by rfl, ?_⟩) HHeld.out ?_
  rotate_left
  · intro w hSw; clear hSw; go_simp; try with_reducible rfl
  try simp only [pu, pn, s1, s2, s3]
  refine wT (i := 17) (oi := { dst := some 47, op := Op.load 26 (Operand.tmp 46), type := 26, pos := "ref.go:100", after := #[{ on := 16, ground := Ground.data }], guard := none }) (v := (.slice B 0 bc : Value)) rfl (Or.inl ⟨by rfl, ?_⟩) HHeld.out ?_
  · intro V hV; have hc0 := (cells5 hV.1).2.2.2.2; clear hV; go_simp
  try simp only [pu, pn, s1, s2, s3]
  refine wpAnyH_ready (rs := [12]) (by kernel_rfl) (by simp) ?_
  refine AllReadyH.cons (o := { dst := some 42, op := Op.buildSlice 24 2 #[(0, Operand.tmp 40), (1, Operand.tmp 41)], type := 24, pos := "ref.go:100", after := #[{ on := 10, ground := Ground.data }, { on := 11, ground := Ground.data }], guard := none }) rfl (fun K hK => ?_) AllReadyH.nil
  have CA := Lib.hid (show SK w1 [(w.heap.size, (NO kd (.slice P n pc) (.slice (some ⟨bj, oj, none⟩) k kc) (.slice M m mc) (.slice B 0 bc))), (w.heap.size + 1, ZN)] (w1.alloc (.cells #[.int .i64 x, .int .i64 kid] 3)).drew from K0.out.later (alb _ (.cells #[.int .i64 x, .int .i64 kid] 3)))
  go_simp
  refine hK.out _ _ ?_ (fun hHeld => ?_)
  · exact KS.out _ CA.out
  clear HHeld; have HHeld := Lib.hid hHeld; clear hHeld
  clear hK K
  try simp only [pu, pn, s1, s2, s3]
  refine wpAnyH_ready (rs := [13]) (by kernel_rfl) (by simp) ?_
  refine AllReadyH.cons (o := { dst := some 43, op := Op.call { callee := Callee.value (Operand.func 52), args := #[Operand.tmp 34, Operand.tmp 35, Operand.const (Value.int IntKind.i64 1), Operand.tmp 42], argTypes := #[24, 3, 3, 24] }, type := 24, pos := "ref.go:100", after := #[{ on := 4, ground := Ground.data }, { on := 5, ground := Ground.data }, { on := 12, ground := Ground.data }], guard := none }) rfl (fun K hK => ?_) AllReadyH.nil
  have KA := Lib.hid (kids_any (some ⟨bj, oj, none⟩) (some ⟨w1.heap.size, 0, none⟩) k kc i 1 2 2 v ks [x, kid] (w1.alloc (.cells #[.int .i64 x, .int .i64 kid] 3)).drew HKL.out (by omega) (by omega) (by omega) (by omega) ((HJ.out.later H0.out).later (alb w1 _).drew) rfl (by omega) ((RE.Rd.lit (E := EI) w1 3 [x, kid] #[.int .i64 x, .int .i64 kid] rfl).later (drew_bel _)))
  rw [show ((1 : Nat) : Int) = 1 from rfl] at KA
  unfold KidsP at KA
  go_simp
  go_at_call 52; ((with_reducible refine KA.out.mono ?_); rintro e w2 ⟨⟨JN, jn, rfl, rj⟩, b⟩; have K2 := Lib.hid (CA.out.later b); have RJ := Lib.hid ((kids_eq ks i v x kid hv HX.out) ▸ rj); have HRT := Lib.hid ((RT.out.later (alb w1 (.cells #[.int .i64 x, .int .i64 kid] 3)).drew).later b); clear b rj)
  refine hK.out _ _ ?_ (fun hHeld => ?_)
  · exact KS.out _ K2.out
  clear HHeld; have HHeld := Lib.hid hHeld; clear hHeld
  clear hK K
  try simp only [pu, pn, s1, s2, s3]
  refine wT (i := 18) (oi := { dst := some 48, op := Op.build 28 #[(0, Operand.tmp 31), (1, Operand.tmp 32), (2, Operand.tmp 43), (3, Operand.tmp 45), (4, Operand.tmp 47)], type := 28, pos := "ref.go:100", after := #[{ on := 1, ground := Ground.data }, { on := 2, ground := Ground.data }, { on := 13, ground := Ground.data }, { on := 15, ground := Ground.data }, { on := 17, ground := Ground.data }], guard := none }) (v := ?_) rfl (Or.inl ⟨by rfl, ?_⟩) HHeld.out ?_
  rotate_left
  · intro w hSw; clear hSw; go_simp; try with_reducible rfl
  try simp only [pu, pn, s1, s2, s3]
  refine wpAnyH_ready (rs := [19]) (by kernel_rfl) (by simp) ?_
  refine AllReadyH.cons (o := { dst := none, op := Op.store 28 (Operand.tmp 8) (Operand.tmp 48), type := 0, pos := "ref.go:100", after := #[{ on := 18, ground := Ground.data }, { on := 13, ground := Ground.chain }, { on := 0, ground := Ground.phase }, { on := 1, ground := Ground.phase }, { on := 2, ground := Ground.phase }, { on := 3, ground := Ground.phase }, { on := 4, ground := Ground.phase }, { on := 5, ground := Ground.phase }, { on := 6, ground := Ground.phase }, { on := 7, ground := Ground.phase }, { on := 8, ground := Ground.phase }, { on := 9, ground := Ground.phase }, { on := 10, ground := Ground.phase }, { on := 11, ground := Ground.phase }, { on := 12, ground := Ground.phase }, { on := 13, ground := Ground.phase }, { on := 14, ground := Ground.phase }, { on := 15, ground := Ground.phase }, { on := 16, ground := Ground.phase }, { on := 17, ground := Ground.phase }, { on := 18, ground := Ground.phase }], guard := none }) rfl (fun K hK => ?_) AllReadyH.nil
  obtain ⟨f0, f1, f2, f3, f4⟩ := froz5 (K2.out.g 1 rfl)
  obtain ⟨k0, k1, k2, k3, k4⟩ := cells5 (K2.out.g 1 rfl)
  have T4 := Lib.hid (T3.mk (lo := w.heap.size) HRT.out RJ.out (HM.out.later (bel_trans H0.out K2.out.b)) HTN.out.off (both_off (int_off RJ.out (K2.out.g 0 rfl)) (int_off RJ.out (K2.out.g 1 rfl))) (rd_low HM.out rfl))
  have H6 := Lib.hid (bel_trans H0.out K2.out.b)
  go_simp
  clear f0 f1 f2 f3 f4 k0 k1 k2 k3 k4
  generalize hW : World.setCell _ _ _ = W6
  have HC6 := Lib.hid (show Chg (fun g => g = w.heap.size + 1) w2 W6 by rw [← hW]; exact chg5 _ _ _ _ _ _ _)
  have Y6 := Lib.hid (show W6.heap[w.heap.size + 1]? = some (NO kd (.slice A1 T.length q1) (.slice JN (i + 2 + (k - v)) jn) (.slice M m mc) (.slice B 0 bc)) from (by rw [← hW]; exact set5w (K2.out.g 1 rfl) _ _ _ _ _))
  clear hW
  refine hK.out _ _ ?_ (fun hHeld => ?_)
  · exact ⟨keep_chg HC6.out (K2.out.g 0 rfl) (fun e => by omega), (World.cell?_of_block (HC6.out.block bj (by have := H6.out.size; have := HBJ.out; omega) (fun e => by have := HBJ.out; omega))).trans (KS.out _ K2.out).2⟩
  clear HHeld; have HHeld := Lib.hid hHeld; clear hHeld
  clear hK K
  try simp only [pu, pn, s1, s2, s3]
  refine wT (i := 20) (oi := { dst := some 9, op := Op.assign (Operand.const (Value.bool true)), type := 4, pos := "ref.go:100", after := #[{ on := 19, ground := Ground.chain }, { on := 0, ground := Ground.phase }, { on := 1, ground := Ground.phase }, { on := 2, ground := Ground.phase }, { on := 3, ground := Ground.phase }, { on := 4, ground := Ground.phase }, { on := 5, ground := Ground.phase }, { on := 6, ground := Ground.phase }, { on := 7, ground := Ground.phase }, { on := 8, ground := Ground.phase }, { on := 9, ground := Ground.phase }, { on := 10, ground := Ground.phase }, { on := 11, ground := Ground.phase }, { on := 12, ground := Ground.phase }, { on := 13, ground := Ground.phase }, { on := 14, ground := Ground.phase }, { on := 15, ground := Ground.phase }, { on := 16, ground := Ground.phase }, { on := 17, ground := Ground.phase }, { on := 18, ground := Ground.phase }, { on := 19, ground := Ground.phase }], guard := none }) (v := ?_) rfl (Or.inl ⟨by rfl, ?_⟩) HHeld.out ?_
  rotate_left
  · intro w hSw; clear hSw; go_simp; try with_reducible rfl
  try simp only [pu, pn, s1, s2, s3]
  refine wpAnyH_done (by kernel_rfl) ?_ _
  clear HHeld
  go_wp2
  obtain ⟨k0, k1, k2, k3, k4⟩ := cells5 Y6.out
  refine bodyPost_ret (v := .tuple #[NV kd (.slice A1 T.length q1) (.slice JN (i + 2 + (k - v)) jn) (.slice M m mc) (.slice B 0 bc), .bool true]) (by simp [results, Try.results20, go_sem, k0, k1, k2, k3, k4]) rfl ⟨A1, T.length, q1, JN, (i + 2 + (k - v)), jn, M, m, mc, B, bc, rfl, ⟨rfl, HNK.out, HML.out⟩, ?_, bel_chg H6.out HC6.out (by omega)⟩
  have q := T4.out.chg HC6.out (.inr rfl)
  exact ⟨q.rt, q.rj, q.rm⟩
set_option maxRecDepth 100000 in
set_option maxHeartbeats 4000000 in
theorem runite_yes (kd : Int) (P J M B : Option Addr) (n pc k kc m mc bc : Nat) (i : Nat) (v v2 : Nat) (x : Int) (ps : List ByteArray) (ks : List Int) (ms : List MG) (T : List ByteArray) (w : World) (hkl : ks.length = k) (hk1 : k ≤ 100) (hJ : EI.Rd w J ks) (hm : ms.length = m) (hM : EG.Rd w M ms) (hkc : k ≤ kc) (hv : i + 1 = v) (hv2 : i + 2 = v2) (hik : v < k) (hx : ks[i]? = some x)
    (PA : ∀ W, Below w.heap.size w W → Calls Try.prog 55 #[.slice P n pc, .int .i64 (i : Int)] W (Pv.PvPost true T W)) :
    Calls Try.prog 22 #[NV kd (.slice P n pc) (.slice J k kc) (.slice M m mc) (.slice B 0 bc), .int .i64 (i : Int)] w (TurnP true kd T (ks.take v ++ ks.drop v2) ms w) := by
  unfold Pv.PvPost at PA
  have HP := Lib.hid PA
  have HKL := Lib.hid hkl
  have HML := Lib.hid hm
  have HM := Lib.hid hM
  obtain ⟨bj, oj, rfl, hbj, cx⟩ := ei_at hJ hx
  have HBJ := Lib.hid hbj
  have HJ := Lib.hid hJ
  have XC := Lib.hid (fun V (h : Below w.heap.size w V) => (show V.cell? ⟨bj, oj + i, none⟩ = some (.int .i64 x) from (by obtain ⟨b2, o2, e, -, c2⟩ := ei_at (hJ.later h) hx; cases e; exact c2)))
  have HX := Lib.hid hx
  clear cx hx hbj
  have HNK := Lib.hid (show (ks.take v ++ ks.drop v2).length = v + (k - v2) by rw [List.length_append, List.length_take, List.length_drop]; omega)
  have i0 : (0 : Int) ≤ (i : Int) := by omega
  obtain ⟨k1, hk9⟩ : ∃ k1, k1 + 1 = k := ⟨k - 1, by omega⟩
  have i3 : IntKind.i64.wrap ((k : Int) - 1) = (k1 : Int) := by rw [IntWalk.i64_in _ (by omega)]; omega
  have i1 : ¬ (k1 : Int) ≤ (i : Int) := by omega
  have i4 : (i : Int) < (k1 : Int) := by omega
  have i2 : (i : Int) < (k : Int) := by omega
  have y1 := two_new w (NO kd (.slice P n pc) (.slice (some ⟨bj, oj, none⟩) k kc) (.slice M m mc) (.slice B 0 bc)) ZN
  have H0 := Lib.hid (bel_alloc (alb w (NO kd (.slice P n pc) (.slice (some ⟨bj, oj, none⟩) k kc) (.slice M m mc) (.slice B 0 bc))) ZN)
  have Z := Lib.hid y1.1
  have X := Lib.hid y1.2
  clear y1 PA hkl hJ hm hM
  obtain ⟨c0, c1, c2, c3, c4⟩ := cells5 Z.out
  go_enter Try.func22, Try.ntmps22
  go_upto_region 4 with (first
    | (go_at_call 55; ((with_reducible refine (HP.out _ H0.out).mono ?_); rintro e w1 ⟨A1, q1, rfl, r1, b⟩; replace H0 := Lib.hid (bel_trans H0.out b); replace Z := Lib.hid (keep_bel b Z.out); replace X := Lib.hid (keep_bel b X.out); have RT := Lib.hid (es_rd.2 r1); have HTN := Lib.hid (tn_of RT.out Z.out X.out); clear b r1 c0 c1 c2 c3 c4; obtain ⟨c0, c1, c2, c3, c4⟩ := cells5 Z.out))
    | fail)
  have K0 := Lib.hid (show SK w1 [(w.heap.size, (NO kd (.slice P n pc) (.slice (some ⟨bj, oj, none⟩) k kc) (.slice M m mc) (.slice B 0 bc))), (w.heap.size + 1, ZN)] w1.drew from SK.start (by intro p hp; simp only [List.mem_cons, List.not_mem_nil, or_false] at hp; rcases hp with rfl | rfl; exact Z.out; exact X.out))
  have KS := Lib.hid (fun V (h : SK w1 [(w.heap.size, (NO kd (.slice P n pc) (.slice (some ⟨bj, oj, none⟩) k kc) (.slice M m mc) (.slice B 0 bc))), (w.heap.size + 1, ZN)] V) => (⟨h.g 0 rfl, XC.out V (bel_trans H0.out h.b)⟩ : V.heap[w.heap.size]? = some (NO kd (.slice P n pc) (.slice (some ⟨bj, oj, none⟩) k kc) (.slice M m mc) (.slice B 0 bc)) ∧ V.cell? ⟨bj, oj + i, none⟩ = some (.int .i64 x)))
  refine wp_region_held_drew (S := (fun V : World => V.heap[w.heap.size]? = some (NO kd (.slice P n pc) (.slice (some ⟨bj, oj, none⟩) k kc) (.slice M m mc) (.slice B 0 bc)) ∧ V.cell? ⟨bj, oj + i, none⟩ = some (.int .i64 x))) (by kernel_rfl) ?_ (fun hHeld => ?_)
  · exact KS.out _ K0.out
  have HHeld := Lib.hid hHeld; clear hHeld
  refine wT (i := 0) (oi := { dst := some 26, op := Op.fieldAddr 28 (Operand.tmp 2) 0, type := 0, pos := "ref.go:109", after := #[], guard := none }) (v := ?_) rfl (Or.inl ⟨by rfl, ?_⟩) HHeld.out ?_
  rotate_left
  · intro w hSw; clear hSw; go_simp; try with_reducible rfl
  try simp only [pu, pn, s1, s2, s3]
  refine wT (i := 1) (oi := { dst := some 27, op := Op.load 22 (Operand.tmp 26), type := 22, pos := "ref.go:109", after := #[{ on := 0, ground := Ground.data }], guard := none }) (v := (.int .u8 kd : Value)) rfl (Or.inl ⟨by rfl, ?_⟩) HHeld.out ?_
  · intro V hV; have hc0 := (cells5 hV.1).1; clear hV; go_simp
  try simp only [pu, pn, s1, s2, s3]
  refine wT (i := 2) (oi := { dst := some 28, op := Op.move (Operand.tmp 6), type := 23, pos := "ref.go:109", after := #[], guard := none }) (v := ?_) rfl (Or.inl ⟨by rfl, ?_⟩) HHeld.out ?_
  rotate_left
  · intro w hSw; clear hSw; go_simp; try with_reducible rfl
  try simp only [pu, pn, s1, s2, s3]
  refine wT (i := 3) (oi := { dst := some 29, op := Op.fieldAddr 28 (Operand.tmp 2) 2, type := 0, pos := "ref.go:109", after := #[], guard := none }) (v := ?_) rfl (Or.inl ⟨by rfl, ?_⟩) HHeld.out ?_
  rotate_left
  · intro w hSw; clear hSw; go_simp; try with_reducible rfl
  try simp only [pu, pn, s1, s2, s3]
  refine wT (i := 4) (oi := { dst := some 30, op := Op.load 24 (Operand.tmp 29), type := 24, pos := "ref.go:109", after := #[{ on := 3, ground := Ground.data }], guard := none }) (v := (.slice (some ⟨bj, oj, none⟩) k kc : Value)) rfl (Or.inl ⟨by rfl, ?_⟩) HHeld.out ?_
  · intro V hV; have hc0 := (cells5 hV.1).2.2.1; clear hV; go_simp
  try simp only [pu, pn, s1, s2, s3]
  refine wT (i := 5) (oi := { dst := some 31, op := Op.move (Operand.tmp 1), type := 3, pos := "ref.go:109", after := #[], guard := none }) (v := ?_) rfl (Or.inl ⟨by rfl, ?_⟩) HHeld.out ?_
  rotate_left
  · intro w hSw; clear hSw; go_simp; try with_reducible rfl
  try simp only [pu, pn, s1, s2, s3]
  refine wT (i := 6) (oi := { dst := some 32, op := Op.fieldAddr 28 (Operand.tmp 2) 2, type := 0, pos := "ref.go:109", after := #[], guard := none }) (v := ?_) rfl (Or.inl ⟨by rfl, ?_⟩) HHeld.out ?_
  rotate_left
  · intro w hSw; clear hSw; go_simp; try with_reducible rfl
  try simp only [pu, pn, s1, s2, s3]
  refine wT (i := 7) (oi := { dst := some 33, op := Op.load 24 (Operand.tmp 32), type := 24, pos := "ref.go:109", after := #[{ on := 6, ground := Ground.data }], guard := none }) (v := (.slice (some ⟨bj, oj, none⟩) k kc : Value)) rfl (Or.inl ⟨by rfl, ?_⟩) HHeld.out ?_
  · intro V hV; have hc0 := (cells5 hV.1).2.2.1; clear hV; go_simp
  try simp only [pu, pn, s1, s2, s3]
  refine wT (i := 8) (oi := { dst := some 34, op := Op.move (Operand.tmp 1), type := 3, pos := "ref.go:109", after := #[], guard := none }) (v := ?_) rfl (Or.inl ⟨by rfl, ?_⟩) HHeld.out ?_
  rotate_left
  · intro w hSw; clear hSw; go_simp; try with_reducible rfl
  try simp only [pu, pn, s1, s2, s3]
  refine wT (i := 9) (oi := { dst := some 35, op := Op.indexAddr 24 (Operand.tmp 33) (Operand.tmp 34), type := 0, pos := "ref.go:109", after := #[{ on := 7, ground := Ground.data }, { on := 8, ground := Ground.data }], guard := none }) (v := ?_) rfl (Or.inl ⟨by rfl, ?_⟩) HHeld.out ?_
  rotate_left
  · intro w hSw; clear hSw; go_simp; try with_reducible rfl
  try simp only [pu, pn, s1, s2, s3]
  refine wT (i := 10) (oi := { dst := some 36, op := Op.load 3 (Operand.tmp 35), type := 3, pos := "ref.go:109", after := #[{ on := 9, ground := Ground.data }], guard := none }) (v := (.int .i64 x : Value)) rfl (Or.inl ⟨by rfl, ?_⟩) HHeld.out ?_
  · intro V hV; have hc0 := hV.2; clear hV; go_simp
  try simp only [pu, pn, s1, s2, s3]
  refine wT (i := 13) (oi := { dst := some 39, op := Op.fieldAddr 28 (Operand.tmp 2) 3, type := 0, pos := "ref.go:109", after := #[], guard := none }) (v := ?_) rfl (Or.inl ⟨by rfl, ?_⟩) HHeld.out ?_
  rotate_left
  · intro w hSw; clear hSw; go_simp; try with_reducible rfl
  try simp only [pu, pn, s1, s2, s3]
  refine wT (i := 14) (oi := { dst := some 40, op := Op.load 25 (Operand.tmp 39), type := 25, pos := "ref.go:109", after := #[{ on := 13, ground := Ground.data }], guard := none }) (v := (.slice M m mc : Value)) rfl (Or.inl ⟨by rfl, ?_⟩) HHeld.out ?_
  · intro V hV; have hc0 := (cells5 hV.1).2.2.2.1; clear hV; go_simp
  try simp only [pu, pn, s1, s2, s3]
  refine wT (i := 15) (oi := { dst := some 41, op := Op.fieldAddr 28 (Operand.tmp 2) 4, type := 0, pos := "ref.go:109", after := #[], guard := none }) (v := ?_) rfl (Or.inl ⟨by rfl, ?_⟩) HHeld.out ?_
  rotate_left
  · intro w hSw; clear hSw; go_simp; try with_reducible rfl
  try simp only [pu, pn, s1, s2, s3]
  refine wT (i := 16) (oi := { dst := some 42, op := Op.load 26 (Operand.tmp 41), type := 26, pos := "ref.go:109", after := #[{ on := 15, ground := Ground.data }], guard := none }) (v := (.slice B 0 bc : Value)) rfl (Or.inl ⟨by rfl, ?_⟩) HHeld.out ?_
  · intro V hV; have hc0 := (cells5 hV.1).2.2.2.2; clear hV; go_simp
  try simp only [pu, pn, s1, s2, s3]
  refine wpAnyH_ready (rs := [11]) (by kernel_rfl) (by simp) ?_
  refine AllReadyH.cons (o := { dst := some 37, op := Op.buildSlice 24 1 #[(0, Operand.tmp 36)], type := 24, pos := "ref.go:109", after := #[{ on := 10, ground := Ground.data }], guard := none }) rfl (fun K hK => ?_) AllReadyH.nil
  have CA := Lib.hid (show SK w1 [(w.heap.size, (NO kd (.slice P n pc) (.slice (some ⟨bj, oj, none⟩) k kc) (.slice M m mc) (.slice B 0 bc))), (w.heap.size + 1, ZN)] (w1.alloc (.cells #[.int .i64 x] 3)).drew from K0.out.later (alb _ (.cells #[.int .i64 x] 3)))
  go_simp
  refine hK.out _ _ ?_ (fun hHeld => ?_)
  · exact KS.out _ CA.out
  clear HHeld; have HHeld := Lib.hid hHeld; clear hHeld
  clear hK K
  try simp only [pu, pn, s1, s2, s3]
  refine wpAnyH_ready (rs := [12]) (by kernel_rfl) (by simp) ?_
  refine AllReadyH.cons (o := { dst := some 38, op := Op.call { callee := Callee.value (Operand.func 52), args := #[Operand.tmp 30, Operand.tmp 31, Operand.const (Value.int IntKind.i64 2), Operand.tmp 37], argTypes := #[24, 3, 3, 24] }, type := 24, pos := "ref.go:109", after := #[{ on := 4, ground := Ground.data }, { on := 5, ground := Ground.data }, { on := 11, ground := Ground.data }], guard := none }) rfl (fun K hK => ?_) AllReadyH.nil
  have KA := Lib.hid (kids_any (some ⟨bj, oj, none⟩) (some ⟨w1.heap.size, 0, none⟩) k kc i 2 1 1 v2 ks [x] (w1.alloc (.cells #[.int .i64 x] 3)).drew HKL.out (by omega) (by omega) (by omega) (by omega) ((HJ.out.later H0.out).later (alb w1 _).drew) rfl (by omega) ((RE.Rd.lit (E := EI) w1 3 [x] #[.int .i64 x] rfl).later (drew_bel _)))
  rw [show ((2 : Nat) : Int) = 2 from rfl] at KA
  unfold KidsP at KA
  go_simp
  go_at_call 52; ((with_reducible refine KA.out.mono ?_); rintro e w2 ⟨⟨JN, jn, rfl, rj⟩, b⟩; have K2 := Lib.hid (CA.out.later b); have RJ := Lib.hid ((kids_eq2 ks i v v2 x hv HX.out) ▸ rj); have HRT := Lib.hid ((RT.out.later (alb w1 (.cells #[.int .i64 x] 3)).drew).later b); clear b rj)
  refine hK.out _ _ ?_ (fun hHeld => ?_)
  · exact KS.out _ K2.out
  clear HHeld; have HHeld := Lib.hid hHeld; clear hHeld
  clear hK K
  try simp only [pu, pn, s1, s2, s3]
  refine wT (i := 17) (oi := { dst := some 43, op := Op.build 28 #[(0, Operand.tmp 27), (1, Operand.tmp 28), (2, Operand.tmp 38), (3, Operand.tmp 40), (4, Operand.tmp 42)], type := 28, pos := "ref.go:109", after := #[{ on := 1, ground := Ground.data }, { on := 2, ground := Ground.data }, { on := 12, ground := Ground.data }, { on := 14, ground := Ground.data }, { on := 16, ground := Ground.data }], guard := none }) (v := ?_) rfl (Or.inl ⟨by rfl, ?_⟩) HHeld.out ?_
  rotate_left
  · intro w hSw; clear hSw; go_simp; try with_reducible rfl
  try simp only [pu, pn, s1, s2, s3]
  refine wpAnyH_ready (rs := [18]) (by kernel_rfl) (by simp) ?_
  refine AllReadyH.cons (o := { dst := none, op := Op.store 28 (Operand.tmp 4) (Operand.tmp 43), type := 0, pos := "ref.go:109", after := #[{ on := 17, ground := Ground.data }, { on := 12, ground := Ground.chain }, { on := 0, ground := Ground.phase }, { on := 1, ground := Ground.phase }, { on := 2, ground := Ground.phase }, { on := 3, ground := Ground.phase }, { on := 4, ground := Ground.phase }, { on := 5, ground := Ground.phase }, { on := 6, ground := Ground.phase }, { on := 7, ground := Ground.phase }, { on := 8, ground := Ground.phase }, { on := 9, ground := Ground.phase }, { on := 10, ground := Ground.phase }, { on := 11, ground := Ground.phase }, { on := 12, ground := Ground.phase }, { on := 13, ground := Ground.phase }, { on := 14, ground := Ground.phase }, { on := 15, ground := Ground.phase }, { on := 16, ground := Ground.phase }, { on := 17, ground := Ground.phase }], guard := none }) rfl (fun K hK => ?_) AllReadyH.nil
  obtain ⟨f0, f1, f2, f3, f4⟩ := froz5 (K2.out.g 1 rfl)
  obtain ⟨k0, k1, k2, k3, k4⟩ := cells5 (K2.out.g 1 rfl)
  have T4 := Lib.hid (T3.mk (lo := w.heap.size) HRT.out RJ.out (HM.out.later (bel_trans H0.out K2.out.b)) HTN.out.off (both_off (int_off RJ.out (K2.out.g 0 rfl)) (int_off RJ.out (K2.out.g 1 rfl))) (rd_low HM.out rfl))
  have H6 := Lib.hid (bel_trans H0.out K2.out.b)
  go_simp
  clear f0 f1 f2 f3 f4 k0 k1 k2 k3 k4
  generalize hW : World.setCell _ _ _ = W6
  have HC6 := Lib.hid (show Chg (fun g => g = w.heap.size + 1) w2 W6 by rw [← hW]; exact chg5 _ _ _ _ _ _ _)
  have Y6 := Lib.hid (show W6.heap[w.heap.size + 1]? = some (NO kd (.slice A1 T.length q1) (.slice JN (v + (k - v2)) jn) (.slice M m mc) (.slice B 0 bc)) from (by rw [← hW]; exact set5w (K2.out.g 1 rfl) _ _ _ _ _))
  clear hW
  refine hK.out _ _ ?_ (fun hHeld => ?_)
  · exact ⟨keep_chg HC6.out (K2.out.g 0 rfl) (fun e => by omega), (World.cell?_of_block (HC6.out.block bj (by have := H6.out.size; have := HBJ.out; omega) (fun e => by have := HBJ.out; omega))).trans (KS.out _ K2.out).2⟩
  clear HHeld; have HHeld := Lib.hid hHeld; clear hHeld
  clear hK K
  try simp only [pu, pn, s1, s2, s3]
  refine wT (i := 19) (oi := { dst := some 5, op := Op.assign (Operand.const (Value.bool true)), type := 4, pos := "ref.go:109", after := #[{ on := 18, ground := Ground.chain }, { on := 0, ground := Ground.phase }, { on := 1, ground := Ground.phase }, { on := 2, ground := Ground.phase }, { on := 3, ground := Ground.phase }, { on := 4, ground := Ground.phase }, { on := 5, ground := Ground.phase }, { on := 6, ground := Ground.phase }, { on := 7, ground := Ground.phase }, { on := 8, ground := Ground.phase }, { on := 9, ground := Ground.phase }, { on := 10, ground := Ground.phase }, { on := 11, ground := Ground.phase }, { on := 12, ground := Ground.phase }, { on := 13, ground := Ground.phase }, { on := 14, ground := Ground.phase }, { on := 15, ground := Ground.phase }, { on := 16, ground := Ground.phase }, { on := 17, ground := Ground.phase }, { on := 18, ground := Ground.phase }], guard := none }) (v := ?_) rfl (Or.inl ⟨by rfl, ?_⟩) HHeld.out ?_
  rotate_left
  · intro w hSw; clear hSw; go_simp; try with_reducible rfl
  try simp only [pu, pn, s1, s2, s3]
  refine wpAnyH_done (by kernel_rfl) ?_ _
  clear HHeld
  go_wp2
  obtain ⟨k0, k1, k2, k3, k4⟩ := cells5 Y6.out
  refine bodyPost_ret (v := .tuple #[NV kd (.slice A1 T.length q1) (.slice JN (v + (k - v2)) jn) (.slice M m mc) (.slice B 0 bc), .bool true]) (by simp [results, Try.results22, go_sem, k0, k1, k2, k3, k4]) rfl ⟨A1, T.length, q1, JN, (v + (k - v2)), jn, M, m, mc, B, bc, rfl, ⟨rfl, HNK.out, HML.out⟩, ?_, bel_chg H6.out HC6.out (by omega)⟩
  have q := T4.out.chg HC6.out (.inr rfl)
  exact ⟨q.rt, q.rj, q.rm⟩
set_option maxRecDepth 100000 in
set_option maxHeartbeats 4000000 in
theorem rmove_yes (kd : Int) (P J M B : Option Addr) (n pc k kc m mc bc : Nat) (i : Nat) (s : ByteArray) (ps : List ByteArray) (ks : List Int) (ms : List MG) (T : List ByteArray) (w : World) (hkl : ks.length = k) (hk1 : k ≤ 100) (hJ : EI.Rd w J ks) (hm : ms.length = m) (hM : EG.Rd w M ms)
    (PA : ∀ W, Below w.heap.size w W → Calls Try.prog 57 #[.slice P n pc, .int .i64 (i : Int), .string s] W (Pv.PvPost true T W)) :
    Calls Try.prog 24 #[NV kd (.slice P n pc) (.slice J k kc) (.slice M m mc) (.slice B 0 bc), .int .i64 (i : Int), .string s] w (TurnP true kd T ks ms w) := by
  unfold Pv.PvPost at PA
  have HP := Lib.hid PA
  have HKL := Lib.hid hkl
  have HML := Lib.hid hm
  have HM := Lib.hid hM
  have HJ := Lib.hid hJ
  have y1 := two_new w (NO kd (.slice P n pc) (.slice J k kc) (.slice M m mc) (.slice B 0 bc)) ZN
  have H0 := Lib.hid (bel_alloc (alb w (NO kd (.slice P n pc) (.slice J k kc) (.slice M m mc) (.slice B 0 bc))) ZN)
  have Z := Lib.hid y1.1
  have X := Lib.hid y1.2
  clear y1 PA hkl hJ hm hM
  obtain ⟨c0, c1, c2, c3, c4⟩ := cells5 Z.out
  go_enter Try.func24, Try.ntmps24
  go_upto_region 4 with (first
    | (go_at_call 57; ((with_reducible refine (HP.out _ H0.out).mono ?_); rintro e w1 ⟨A1, q1, rfl, r1, b⟩; replace H0 := Lib.hid (bel_trans H0.out b); replace Z := Lib.hid (keep_bel b Z.out); replace X := Lib.hid (keep_bel b X.out); have RT := Lib.hid (es_rd.2 r1); have HTN := Lib.hid (tn_of RT.out Z.out X.out); clear b r1 c0 c1 c2 c3 c4; obtain ⟨c0, c1, c2, c3, c4⟩ := cells5 Z.out))
    | fail)
  obtain ⟨k0, k1, k2, k3, k4⟩ := cells5 X.out
  obtain ⟨f0, f1, f2, f3, f4⟩ := froz5 X.out
  go_wp2
  generalize hW : World.setCell _ _ _ = W6
  have HC6 := Lib.hid (show Chg (fun g => g = w.heap.size + 1) w1 W6 by rw [← hW]; exact chg5 _ _ _ _ _ _ _)
  have Y6 := Lib.hid (show W6.heap[w.heap.size + 1]? = some (NO kd (.slice A1 T.length q1) (.slice J k kc) (.slice M m mc) (.slice B 0 bc)) from (by rw [← hW]; exact set5w X.out _ _ _ _ _))
  have H6 := H0
  have T4 := Lib.hid (T3.mk (lo := w.heap.size) RT.out (HJ.out.later H0.out) (HM.out.later H0.out) HTN.out.off (rd_low HJ.out rfl) (rd_low HM.out rfl))
  clear hW k0 k1 k2 k3 k4
  obtain ⟨k0, k1, k2, k3, k4⟩ := cells5 Y6.out
  refine bodyPost_ret (v := .tuple #[NV kd (.slice A1 T.length q1) (.slice J k kc) (.slice M m mc) (.slice B 0 bc), .bool true]) (by simp [results, Try.results24, go_sem, k0, k1, k2, k3, k4]) rfl ⟨A1, T.length, q1, J, k, kc, M, m, mc, B, bc, rfl, ⟨rfl, HKL.out, HML.out⟩, ?_, bel_chg H6.out HC6.out (by omega)⟩
  have q := T4.out.chg HC6.out (.inr rfl)
  exact ⟨q.rt, q.rj, q.rm⟩
end Go.Proofs.Ytilnpeekajnlhaa
