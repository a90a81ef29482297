/- Texts of the proof, one behind the other. -/
import Derived.Maps.OwnSet
import Derived.Maps.RangeWalk
import Derived.Test.YtilnpeekajnlhaaGreatTh14
import Derived.Test.YtilnpeekajnlhaaGreatTh02
import Derived.Deep.RegionHeld3
import Derived.Test.YtilnpeekajnlhaaGreatTh03
import Derived.Test.YtilnpeekajnlhaaGreatTh09
import Derived.Test.YtilnpeekajnlhaaGreatTh13
import Derived.Test.YtilnpeekajnlhaaGreatTh08
set_option linter.unusedVariables false
set_option linter.unusedSimpArgs false
namespace Go.Proofs.YtilnpeekajnlhaaGreat
open Go.RowKit Go.Maps Go.Shelf
attribute [local go_sem] Oper.semAt_some
theorem law3 : Keyed Tryz.prog 3 := int_keyed Tryz.underlying3
theorem zero3 (w : World) : (zeroValue 3).run Tryz.prog w = .ok (.int .i64 0) w := by kernel_rfl
theorem ikey (x : Int) : WideAt.IsKeyLit (.int .i64 x) := trivial
def upd (S : Int → Int) (x v : Int) : Int → Int := fun y => if y = x then v else S y
/-- Block M is a map that holds what S says. -/
def IM (W : World) (M m : Nat) (S : Int → Int) : Prop := ∃ D : DataW Unit, W.ownsMap Tryz.prog 3 (plainElem Tryz.prog 3) M m D ∧ Maps.IsMap D ∧ ∀ x, D.atKey (.int .i64 x) (.lit (.int .i64 0)) = .lit (.int .i64 (S x))
theorem IM.made (w : World) : IM (w.alloc (.map #[] 0)) w.heap.size 0 (fun _ => 0) := ⟨_, World.ownsMap_made (H := Unit) w Tryz.prog 3 _, Maps.isMap_empty, fun x => rfl⟩
theorem IM.kept {w w' : World} {M m : Nat} {S : Int → Int} {row : Option Nat} (h : IM w M m S) (hg : w.grownBy w' row) (hne : some M ≠ row) : IM w' M m S := by
  obtain ⟨D, h1, h2⟩ := h
  exact ⟨D, h1.kept hg hne, h2⟩
theorem IM.lt {w : World} {M m : Nat} {S : Int → Int} (h : IM w M m S) : M < w.heap.size := by
  obtain ⟨D, h1, _⟩ := h
  exact h1.lt
theorem IM.heap {w w' : World} {M m : Nat} {S : Int → Int} (h : IM w M m S) (e : w'.heap[M]? = w.heap[M]?) : IM w' M m S := by
  obtain ⟨D, ⟨es, ck, hb, F, hs, hD⟩, h2⟩ := h
  exact ⟨D, ⟨es, ck, by rw [e]; exact hb, F, hs, hD⟩, h2⟩
theorem IM.later {w w' : World} {M m : Nat} {S : Int → Int} (h : IM w M m S) (hb : Below w.heap.size w w') : IM w' M m S := h.heap (hb.block M h.lt)
theorem im_val {a b : Int} (h : (DataW.lit (.int .i64 a) : DataW Unit) = .lit (.int .i64 b)) : a = b := by injection h with e; injection e
theorem im_look (w : World) {ops : Array Oper} {rest : List Oper} {o : Oper} {a : Act} {Q : Exit → Act → World → Prop} (hg : o.guard = none) (m x : Operand) (hop : o.op = Op.lookup 91 m x false) {M n : Nat} {S : Int → Int} (h : IM w M n S)
    (hm : a.eval m = .map (some M)) (i : Int) (hx : a.eval x = .int .i64 i) (hi : (Lit.int .i64 i).wf = true) (v : Int) (hv : S i = v) (hK : wpList Tryz.prog ops Q rest (a.put o.dst (.int .i64 v)) w) : wpList Tryz.prog ops Q (o :: rest) a w := by
  subst hv
  obtain ⟨D, h1, h2, h3⟩ := h
  refine wpList_lookup_own_int w hg m x 91 hop 3 3 .i64 law3 Tryz.underlying91 Tryz.underlying3 (zero3 _) M n D hm h1 _ _ hx (keyOf_int_mk (P := Tryz.prog) Tryz.underlying3 hi) (fun c hat _ => ?_)
  rw [h3 i] at hat
  obtain rfl : S i = c := by injection hat with e1; injection e1
  exact hK
theorem im_glook (w : World) {ops : Array Oper} {rest : List Oper} {o : Oper} {a : Act} {Q : Exit → Act → World → Prop} (hw : Region.wanted o (yielded ops a.tmps) = true) (m x : Operand) (hop : o.op = Op.lookup 91 m x false) {M n : Nat} {S : Int → Int} (h : IM w M n S)
    (hm : a.eval m = .map (some M)) (i : Int) (hx : a.eval x = .int .i64 i) (hi : (Lit.int .i64 i).wf = true) (v : Int) (hv : S i = v) (hK : wpList Tryz.prog ops Q rest (a.put o.dst (.int .i64 v)) w) : wpList Tryz.prog ops Q (o :: rest) a w := by
  subst hv
  obtain ⟨D, h1, h2, h3⟩ := h
  unfold wpList
  rw [if_pos hw]
  left
  obtain ⟨c, hrun, hat, hwc⟩ := h1.lookup_int (q := .i64) law3 Tryz.underlying91 Tryz.underlying3 (zero3 w) (keyOf_int_mk (P := Tryz.prog) Tryz.underlying3 hi)
  have hc : c = S i := im_val (hat.symm.trans (h3 i))
  rw [hc] at hrun
  clear hat hwc hc
  unfold Oper.wp
  simp [execOp, hop, hm, hx, hrun, Result.andThen]
  exact hK
theorem im_put (w : World) {ops : Array Oper} {rest : List Oper} {o : Oper} {a : Act} {Q : Exit → Act → World → Prop} (hg : o.guard = none) (m x v : Operand) (hop : o.op = Op.mapUpdate 91 m x v) {M n : Nat} {S : Int → Int} (h : IM w M n S) (hn : n < maxLen)
    (hm : a.eval m = .map (some M)) (i j : Int) (hx : a.eval x = .int .i64 i) (hv : a.eval v = .int .i64 j) (hi : (Lit.int .i64 i).wf = true) (hj : (Lit.int .i64 j).wf = true)
    (hK : ∀ w', IM w' M (n + 1) (upd S i j) → w.grownBy w' (some M) → wpList Tryz.prog ops Q rest (a.put o.dst undef) w') : wpList Tryz.prog ops Q (o :: rest) a w := by
  obtain ⟨D, h1, h2, h3⟩ := h
  refine wpList_mapUpdate_own w hg m x v 91 hop 3 3 law3 Tryz.underlying91 _ M n D hm h1 hn _ _ _ hx hv (keyOf_int_mk (P := Tryz.prog) Tryz.underlying3 hi) _ [] (plainElem_int Tryz.underlying3 hj) (fun w' hw hgr => hK w' ⟨_, hw, h2.put _ _, fun y => ?_⟩ hgr)
  by_cases c : y = i
  · subst c; rw [Maps.atKey_put_same h2 (ikey y)]; simp [upd]
  · rw [Maps.atKey_put_other (by simpa using c), h3 y]; simp [upd, c]
end Go.Proofs.YtilnpeekajnlhaaGreat
namespace Go.Proofs.YtilnpeekajnlhaaGreat
open Go.RowKit Go.Maps
/-- A node's five cells. -/
abbrev NO (k : Int) (p i m b : Value) : Obj := .cells #[.int .u8 k, p, i, m, b] 28 (0, 0)
abbrev NV (k : Int) (p i m b : Value) : Value := .agg #[.int .u8 k, p, i, m, b]
abbrev ZN : Obj := NO 0 (.slice none 0 0) (.slice none 0 0) (.slice none 0 0) (.slice none 0 0)
theorem cells5 {W : World} {g : Nat} {a b c d e : Value} {t : TypeId} (z : W.heap[g]? = some (.cells #[a, b, c, d, e] t (0, 0))) :
    W.cell? ⟨g, 0, none⟩ = some a ∧ W.cell? ⟨g, 1, none⟩ = some b ∧ W.cell? ⟨g, 2, none⟩ = some c ∧ W.cell? ⟨g, 3, none⟩ = some d ∧ W.cell? ⟨g, 4, none⟩ = some e := by
  refine ⟨?_, ?_, ?_, ?_, ?_⟩ <;> simp [World.cell?, z]
theorem froz5 {W : World} {g : Nat} {a b c d e : Value} {t : TypeId} (z : W.heap[g]? = some (.cells #[a, b, c, d, e] t (0, 0))) :
    W.frozen? ⟨g, 0, none⟩ = false ∧ W.frozen? ⟨g, 1, none⟩ = false ∧ W.frozen? ⟨g, 2, none⟩ = false ∧ W.frozen? ⟨g, 3, none⟩ = false ∧ W.frozen? ⟨g, 4, none⟩ = false := by
  refine ⟨?_, ?_, ?_, ?_, ?_⟩ <;> simp [World.frozen?, z]
/-- Is it so small that it is gone through? -/
def smallB (n k m b : Nat) : Bool := decide ((k : Int) ≤ 20) && (decide ((n : Int) ≤ 20) && (decide ((m : Int) ≤ 30) && decide ((b : Int) ≤ 5)))
set_option maxHeartbeats 2000000 in
theorem small_any (kd : Int) (P J M B : Option Addr) (n pc k kc m mc b bc : Nat) (w : World) :
    Calls Tryz.prog 4 #[NV kd (.slice P n pc) (.slice J k kc) (.slice M m mc) (.slice B b bc)] w fun e w' => e = .returned (.bool (smallB n k m b)) ∧ Below w.heap.size w w' := by
  have B0 := Lib.hid (alb w (NO kd (.slice P n pc) (.slice J k kc) (.slice M m mc) (.slice B b bc)))
  unfold smallB
  by_cases h1 : (k : Int) ≤ 20
  · rw [decide_eq_true h1]
    by_cases h2 : (n : Int) ≤ 20
    · rw [decide_eq_true h2]
      by_cases h3 : (m : Int) ≤ 30
      · rw [decide_eq_true h3]
        by_cases h4 : (b : Int) ≤ 5
        · rw [decide_eq_true h4]
          go_enter Tryz.func4, Tryz.ntmps4
          go_wp2
          go_ret
          exact ⟨rfl, B0.out⟩
        · rw [decide_eq_false h4]
          go_enter Tryz.func4, Tryz.ntmps4
          go_wp2
          go_ret
          exact ⟨rfl, B0.out⟩
      · rw [decide_eq_false h3]
        go_enter Tryz.func4, Tryz.ntmps4
        go_wp2
        go_ret
        exact ⟨rfl, B0.out⟩
    · rw [decide_eq_false h2]
      go_enter Tryz.func4, Tryz.ntmps4
      go_wp2
      go_ret
      exact ⟨rfl, B0.out⟩
  · rw [decide_eq_false h1]
    go_enter Tryz.func4, Tryz.ntmps4
    go_wp2
    go_ret
    exact ⟨rfl, B0.out⟩
set_option maxHeartbeats 2000000 in
theorem with_any (kd : Int) (P J M B L : Option Addr) (n pc k kc m mc b bc l lc : Nat) (w : World) :
    Calls Tryz.prog 14 #[NV kd (.slice P n pc) (.slice J k kc) (.slice M m mc) (.slice B b bc), .slice L l lc] w fun e w' => e = .returned (NV kd (.slice P n pc) (.slice J k kc) (.slice L l lc) (.slice B b bc)) ∧ Below w.heap.size w w' := by
  go_enter Tryz.func14, Tryz.ntmps14
  go_wp2
  refine bodyPost_ret (v := NV kd (.slice P n pc) (.slice J k kc) (.slice L l lc) (.slice B b bc)) (by simp [results, Tryz.results14, go_sem]) rfl ⟨rfl, ?_⟩
  go_grown
/-- The part of a kid. -/
theorem part_any (kd : Int) (P J M B : Option Addr) (n pc k kc m mc b bc : Nat) (ps : List ByteArray) (f t : ByteArray) (i : Int) (w : World) (hl : ps.length = n) (hn : n ≤ 100) (hP : Pv.RdS w P ps) (hi : i < k) :
    Calls Tryz.prog 44 #[NV kd (.slice P n pc) (.slice J k kc) (.slice M m mc) (.slice B b bc), .agg #[.string f, .string t], .int .i64 i] w (Pv.SpanPost w ps f t i) := by
  have SP := Lib.hid (fun W (h : Below w.heap.size w W) => Pv.span_any P ps n pc f t i W hl (by omega) (Rd.later hP h))
  have H0 := Lib.hid (bel_alloc (bel_alloc (alb w (NO kd (.slice P n pc) (.slice J k kc) (.slice M m mc) (.slice B b bc))) (rgc f t)) (rgc emptyS emptyS))
  obtain ⟨x, y, ok, he⟩ : ∃ x y ok, Pv.spv ps f t i = .tuple #[.agg #[.string x, .string y], .bool ok] := ⟨_, _, _, rfl⟩
  unfold Pv.SpanPost at SP ⊢
  rw [he] at SP
  simp only [he]
  have hi2 : ¬ i ≥ (k : Int) := by omega
  have hi3 : ¬ (k : Int) ≤ i := by omega
  clear he hl hP
  have y0 := heap_alloc_new ((w.alloc (NO kd (.slice P n pc) (.slice J k kc) (.slice M m mc) (.slice B b bc))).alloc (rgc f t)) (rgc emptyS emptyS)
  simp only [World.size_alloc] at y0
  have Y := Lib.hid y0
  clear y0
  go_enter Tryz.func44, Tryz.ntmps44
  go_wp2_with (first
    | (go_at_call 75; ((with_reducible refine (SP.out _ H0.out).mono ?_); rintro e w1 ⟨rfl, b1⟩; have B1 := Lib.hid (bel_trans H0.out b1); obtain ⟨d0, d1, f0, f1⟩ := has_two (keep_bel b1 Y.out); clear b1))
    | fail)
  obtain ⟨e0, e1⟩ := Pv.set2_cells (.string x) (.string y) d0 d1
  refine bodyPost_ret (v := .tuple #[.agg #[.string x, .string y], .bool ok]) (by simp [results, Tryz.results44, go_sem, e0, e1]) rfl ⟨rfl, Pv.bel_set2 B1.out (by omega) _ _⟩
theorem part_far (kd : Int) (P J M B : Option Addr) (n pc k kc m mc b bc : Nat) (ps : List ByteArray) (f t : ByteArray) (i : Int) (w : World) (hl : ps.length = n) (hk : k = n + 1) (hi : ¬ i < k) :
    Calls Tryz.prog 44 #[NV kd (.slice P n pc) (.slice J k kc) (.slice M m mc) (.slice B b bc), .agg #[.string f, .string t], .int .i64 i] w (Pv.SpanPost w ps f t i) := by
  have e := Pv.span_no (p := ps) (f := f) (t := t) (i := i) (by unfold Pv.spanB; rw [hl, decide_eq_false (p := i ≤ (n : Int)) (by omega)]; simp)
  unfold Pv.SpanPost
  rw [e]
  have hi2 : i ≥ (k : Int) := by omega
  have hi3 : (k : Int) ≤ i := by omega
  clear e hk hl
  go_enter Tryz.func44, Tryz.ntmps44
  go_wp2
  refine bodyPost_ret (v := .tuple #[.agg #[.string emptyS, .string emptyS], .bool false]) (by simp [results, Tryz.results44, go_sem]) rfl ⟨rfl, ?_⟩
  go_grown
theorem part_all (kd : Int) (P J M B : Option Addr) (n pc k kc m mc b bc : Nat) (ps : List ByteArray) (f t : ByteArray) (i : Int) (w : World) (hl : ps.length = n) (hn : n ≤ 100) (hP : Pv.RdS w P ps) (hk : k = n + 1) :
    Calls Tryz.prog 44 #[NV kd (.slice P n pc) (.slice J k kc) (.slice M m mc) (.slice B b bc), .agg #[.string f, .string t], .int .i64 i] w (Pv.SpanPost w ps f t i) := by
  by_cases hi : i < k
  · exact part_any kd P J M B n pc k kc m mc b bc ps f t i w hl hn hP hi
  · exact part_far kd P J M B n pc k kc m mc b bc ps f t i w hl hk hi
/-- Which part is a key's. -/
theorem kid_any (kd : Int) (P J M B : Option Addr) (n pc k kc m mc b bc : Nat) (ps : List ByteArray) (s : ByteArray) (w : World) (hl : ps.length = n) (hn : n ≤ 100) (hP : Pv.RdS w P ps) (hk : k = n + 1) :
    Calls Tryz.prog 21 #[NV kd (.slice P n pc) (.slice J k kc) (.slice M m mc) (.slice B b bc), .string s] w fun e w' => e = .returned (.tuple #[.int .i64 (Pv.prt ps s : Int), .bool true]) ∧ Below w.heap.size w w' := by
  have SP := Lib.hid (fun W (h : Below w.heap.size w W) => Pv.part_any P ps n pc s W hl (by omega) (Rd.later hP h))
  have H0 := Lib.hid (alb w (NO kd (.slice P n pc) (.slice J k kc) (.slice M m mc) (.slice B b bc))).drew
  have Z := Lib.hid (show (w.alloc (NO kd (.slice P n pc) (.slice J k kc) (.slice M m mc) (.slice B b bc))).drew.heap[w.heap.size]? = some (NO kd (.slice P n pc) (.slice J k kc) (.slice M m mc) (.slice B b bc)) from heap_alloc_new w _)
  have HQ : Pv.prt ps s ≤ ps.length := Pv.prtK_le ps s ps.length
  have h0 : ((k : Int) == 0) = false := by rw [beq_eq_false_iff_ne]; omega
  have h00 : ¬ (k : Int) = 0 := by omega
  have hw : IntKind.i64.wrap ((k : Int) - 1) = (n : Int) := by rw [IntWalk.i64_in _ (by omega)]; omega
  have HP : min ((Pv.prt ps s : Nat) : Int) (n : Int) = (Pv.prt ps s : Int) := by omega
  clear HQ hl hP hk
  go_enter Tryz.func21, Tryz.ntmps21
  go_wp2_with fail
  refine wp_region_held_drew (S := (fun V : World => V.heap[w.heap.size]? = some (NO kd (.slice P n pc) (.slice J k kc) (.slice M m mc) (.slice B b bc)))) (by kernel_rfl) ?_ (fun hHeld => ?_)
  · exact Z.out
  have HHeld := Lib.hid hHeld; clear hHeld
  refine wT (i := 0) (oi := { dst := some 10, op := Op.fieldAddr 28 (Operand.tmp 2) 1, type := 0, pos := "inner.go:45", after := #[], guard := none }) (v := ?_) rfl (Or.inl ⟨by rfl, ?_⟩) HHeld.out ?_
  rotate_left
  · intro w hSw; clear hSw; go_simp; try with_reducible rfl
  try simp only [pu, pn, s1, s2, s3]
  refine wT (i := 1) (oi := { dst := some 11, op := Op.load 23 (Operand.tmp 10), type := 23, pos := "inner.go:45", after := #[{ on := 0, ground := Ground.data }], guard := none }) (v := (.slice P n pc : Value)) rfl (Or.inl ⟨by rfl, ?_⟩) HHeld.out ?_
  · intro V hV; have hc0 := (cells5 hV).2.1; clear hV; go_simp
  try simp only [pu, pn, s1, s2, s3]
  refine wT (i := 2) (oi := { dst := some 12, op := Op.move (Operand.tmp 1), type := 9, pos := "inner.go:45", after := #[], guard := none }) (v := ?_) rfl (Or.inl ⟨by rfl, ?_⟩) HHeld.out ?_
  rotate_left
  · intro w hSw; clear hSw; go_simp; try with_reducible rfl
  try simp only [pu, pn, s1, s2, s3]
  refine wT (i := 4) (oi := { dst := some 14, op := Op.fieldAddr 28 (Operand.tmp 2) 2, type := 0, pos := "inner.go:45", after := #[], guard := none }) (v := ?_) rfl (Or.inl ⟨by rfl, ?_⟩) HHeld.out ?_
  rotate_left
  · intro w hSw; clear hSw; go_simp; try with_reducible rfl
  try simp only [pu, pn, s1, s2, s3]
  refine wT (i := 5) (oi := { dst := some 15, op := Op.load 24 (Operand.tmp 14), type := 24, pos := "inner.go:45", after := #[{ on := 4, ground := Ground.data }], guard := none }) (v := (.slice J k kc : Value)) rfl (Or.inl ⟨by rfl, ?_⟩) HHeld.out ?_
  · intro V hV; have hc0 := (cells5 hV).2.2.1; clear hV; go_simp
  try simp only [pu, pn, s1, s2, s3]
  refine wT (i := 6) (oi := { dst := some 16, op := Op.call { callee := Callee.builtin Builtin.len, args := #[Operand.tmp 15], argTypes := #[24] }, type := 3, pos := "inner.go:45", after := #[{ on := 5, ground := Ground.data }], guard := none }) (v := ?_) rfl (Or.inl ⟨by rfl, ?_⟩) HHeld.out ?_
  rotate_left
  · intro w hSw; clear hSw; go_simp; try with_reducible rfl
  try simp only [pu, pn, s1, s2, s3]
  refine wT (i := 7) (oi := { dst := some 17, op := Op.binOp BinOp.sub 3 (Operand.tmp 16) (Operand.const (Value.int IntKind.i64 1)) 3, type := 3, pos := "inner.go:45", after := #[{ on := 6, ground := Ground.data }], guard := none }) (v := ?_) rfl (Or.inl ⟨by rfl, ?_⟩) HHeld.out ?_
  rotate_left
  · intro w hSw; clear hSw; go_simp; try with_reducible rfl
  try simp only [pu, pn, s1, s2, s3]
  refine wpAnyH_ready (rs := [3]) (by kernel_rfl) (by simp) ?_
  refine AllReadyH.cons (o := { dst := some 13, op := Op.call { callee := Callee.value (Operand.func 47), args := #[Operand.tmp 11, Operand.tmp 12], argTypes := #[23, 9] }, type := 3, pos := "inner.go:45", after := #[{ on := 1, ground := Ground.data }, { on := 2, ground := Ground.data }], guard := none }) rfl (fun K hK => ?_) AllReadyH.nil
  go_simp
  go_at_call 47
  with_reducible refine (SP.out _ H0.out).mono ?_
  rintro e w1 ⟨rfl, b⟩
  have B1 := Lib.hid (bel_trans H0.out b)
  have Z1 := Lib.hid (keep_bel b Z.out)
  clear b
  refine hK.out _ _ ?_ (fun hHeld => ?_)
  · exact Z1.out
  clear HHeld; have HHeld := Lib.hid hHeld; clear hHeld
  clear hK K
  try simp only [pu, pn, s1, s2, s3]
  refine wT (i := 8) (oi := { dst := some 18, op := Op.call { callee := Callee.builtin Builtin.min, args := #[Operand.tmp 13, Operand.tmp 17], argTypes := #[3, 3] }, type := 3, pos := "inner.go:45", after := #[{ on := 3, ground := Ground.data }, { on := 7, ground := Ground.data }], guard := none }) (v := ?_) rfl (Or.inl ⟨by rfl, ?_⟩) HHeld.out ?_
  rotate_left
  · intro w hSw; clear hSw; go_simp; try with_reducible rfl
  try simp only [pu, pn, s1, s2, s3]
  refine wT (i := 9) (oi := { dst := some 4, op := Op.assign (Operand.tmp 18), type := 3, pos := "inner.go:45", after := #[{ on := 8, ground := Ground.data }, { on := 3, ground := Ground.chain }, { on := 0, ground := Ground.phase }, { on := 1, ground := Ground.phase }, { on := 2, ground := Ground.phase }, { on := 3, ground := Ground.phase }, { on := 4, ground := Ground.phase }, { on := 5, ground := Ground.phase }, { on := 6, ground := Ground.phase }, { on := 7, ground := Ground.phase }, { on := 8, ground := Ground.phase }], guard := none }) (v := ?_) rfl (Or.inl ⟨by rfl, ?_⟩) HHeld.out ?_
  rotate_left
  · intro w hSw; clear hSw; go_simp; try with_reducible rfl
  try simp only [pu, pn, s1, s2, s3]
  refine wT (i := 10) (oi := { dst := some 5, op := Op.assign (Operand.const (Value.bool true)), type := 4, pos := "inner.go:45", after := #[{ on := 9, ground := Ground.chain }, { on := 0, ground := Ground.phase }, { on := 1, ground := Ground.phase }, { on := 2, ground := Ground.phase }, { on := 3, ground := Ground.phase }, { on := 4, ground := Ground.phase }, { on := 5, ground := Ground.phase }, { on := 6, ground := Ground.phase }, { on := 7, ground := Ground.phase }, { on := 8, ground := Ground.phase }, { on := 9, ground := Ground.phase }], guard := none }) (v := ?_) rfl (Or.inl ⟨by rfl, ?_⟩) HHeld.out ?_
  rotate_left
  · intro w hSw; clear hSw; go_simp; try with_reducible rfl
  try simp only [pu, pn, s1, s2, s3]
  refine wpAnyH_done (by kernel_rfl) ?_ _
  clear HHeld
  go_wp2
  refine bodyPost_ret (v := .tuple #[.int .i64 (Pv.prt ps s : Int), .bool true]) (by simp [results, Tryz.results21, go_sem]) rfl ⟨rfl, B1.out⟩
end Go.Proofs.YtilnpeekajnlhaaGreat
namespace Go.Proofs.YtilnpeekajnlhaaGreat
open Go.RowKit Go.Maps Go.Shelf
attribute [local go_sem] Oper.semAt_some
/-- Is a number of a node's, and does none before it say the same? -/
def kidB (l : List Int) (x : Int) : Bool := decide (1 ≤ x) && (decide (x ≤ 4096) && !(l.contains x))
def kidsK (l : List Int) : Nat → Bool
  | 0 => true
  | j + 1 => kidsK l j && (match l[j]? with | some x => kidB (l.take j) x | none => true)
def kidsB (l : List Int) : Bool := kidsK l l.length
theorem kids_less {l : List Int} {j : Nat} (h : kidsK l j = false) : ∀ k, j ≤ k → kidsK l k = false := by
  intro k hk
  induction k with
  | zero => have : j = 0 := by omega
            subst this; exact h
  | succ k ih =>
    by_cases e : j = k + 1
    · rw [← e]; exact h
    · show (kidsK l k && _) = false
      rw [ih (by omega)]; rfl
/-- How often a number was seen. -/
def seenI (l : List Int) (x : Int) : Int := if l.contains x then 1 else 0
theorem ei_at {w : World} {A : Option Addr} {xs : List Int} (h : EI.Rd w A xs) {i : Nat} {x : Int} (hi : xs[i]? = some x) : ∃ b off, A = some ⟨b, off, none⟩ ∧ b < w.heap.size ∧ w.cell? ⟨b, off + i, none⟩ = some (.int .i64 x) := by
  obtain ⟨b, off, e, h1, h2⟩ := h.get hi
  exact ⟨b, off, e, h1, by simpa [EI] using h2 0 _ rfl⟩
set_option maxRecDepth 100000 in
set_option maxHeartbeats 4000000 in
theorem rightKids_any (A : Option Addr) (n c : Nat) (xs : List Int) (w : World) (hl : xs.length = n) (hn : n ≤ 1000) (hA : EI.Rd w A xs) (hx : ∀ x ∈ xs, (Lit.int .i64 x).wf = true) :
    Calls Tryz.prog 30 #[.slice A n c] w fun e w' => e = .returned (.bool (kidsB xs)) ∧ Below w.heap.size w w' := by
  have HL := Lib.hid hl
  have HA := Lib.hid hA
  have HX := Lib.hid hx
  have B0 := Lib.hid (alb w (.map #[] 0))
  have I0 := Lib.hid (IM.made w)
  clear hl hA hx
  have hmm := @run_makeMap Tryz.prog
  go_enter Tryz.func30, Tryz.ntmps30
  go_wp2
  go_loopw [5, 9] (fun kv iv wr => ∃ k : Nat, k ≤ n ∧ iv = .int .i64 k ∧ kidsK xs k = true ∧ (∃ S, IM wr w.heap.size k S ∧ ∀ x, S x = seenI (xs.take k) x) ∧ Below w.heap.size w wr) (fun _ i _ => n - (intOf i).toNat)
  case atStart => exact ⟨0, Nat.zero_le _, rfl, rfl, ⟨_, I0.out, fun x => by simp [seenI]⟩, B0.out⟩
  case round =>
    obtain ⟨k, hk, rfl, hkk, ⟨S, hm, hs⟩, hb⟩ := hrel
    have HB := Lib.hid hb
    have HM := Lib.hid hm
    have HS := Lib.hid hs
    have HK := Lib.hid hkk
    clear hb hm hs hkk hmm I0 B0
    by_cases hkn : k < n
    · have hk1 : (k : Int) < (n : Int) := by omega
      have hk0 : (0 : Int) ≤ (k : Int) := by omega
      have hk9 : (k : Int) ≤ 1000 := by omega
      obtain ⟨x, hx⟩ : ∃ x, xs[k]? = some x := ⟨_, List.getElem?_eq_getElem (by rw [HL.out]; exact hkn)⟩
      have HXK := Lib.hid hx
      have XW := Lib.hid (HX.out x (List.mem_of_getElem? hx))
      obtain ⟨b, off, rfl, hlt, c0⟩ := ei_at (HA.out.later HB.out) hx
      obtain ⟨v, hv⟩ : ∃ v, v = S x := ⟨_, rfl⟩
      have HV := Lib.hid hv.symm
      have h01 : v = 0 ∨ v = 1 := by rw [hv, HS.out]; unfold seenI; split <;> simp
      have hvs := HS.out x
      rw [← hv] at hvs
      have NX : Hid (∀ B, kidB (xs.take k) x = B → kidsK xs (k + 1) = B) := Lib.hid (fun B h => by show (kidsK xs k && _) = B; rw [HK.out, HXK.out]; simpa using h)
      have SX : Hid (∀ y, upd S x (v + 1) y = if y = x then v + 1 else seenI (xs.take k) y) := Lib.hid (fun y => by unfold upd; split <;> simp_all [HS.out])
      clear hx hlt hv
      by_cases hx1 : x < 1
      · have FB := Lib.hid (show kidsB xs = false from kids_less (NX.out false (by unfold kidB; rw [decide_eq_false (by omega)]; rfl)) _ (by rw [HL.out]; omega))
        clear hvs
        rcases h01 with rfl | rfl <;>
        · go_wp2_with (first
            | (at_lookup; refine im_look _ rfl (.tmp 13) (.tmp 14) rfl HM.out rfl x rfl XW.out _ HV.out ?_)
            | (at_mapUpdate; refine im_put _ rfl (.tmp 13) (.tmp 14) (.tmp 16) rfl HM.out (by unfold maxLen; omega) rfl x _ rfl rfl XW.out (by decide) ?_; intro w3 hm3 hg3; have M3 := Lib.hid hm3; have B3 := Lib.hid (HB.out.trans ((chg_of_grown hg3).below (fun g e => by injection e with e; omega) HB.out.size)); clear hm3 hg3)
            | fail)
          go_ret
          exact ⟨by rw [FB.out]; rfl, B3.out⟩
      · by_cases hx2 : 4096 < x
        · have hx3 : x > 4096 := hx2
          have FB := Lib.hid (show kidsB xs = false from kids_less (NX.out false (by unfold kidB; rw [decide_eq_false (p := x ≤ 4096) (by omega)]; simp)) _ (by rw [HL.out]; omega))
          clear hvs
          rcases h01 with rfl | rfl <;>
          · go_wp2_with (first
              | (at_lookup; refine im_look _ rfl (.tmp 13) (.tmp 14) rfl HM.out rfl x rfl XW.out _ HV.out ?_)
              | (at_mapUpdate; refine im_put _ rfl (.tmp 13) (.tmp 14) (.tmp 16) rfl HM.out (by unfold maxLen; omega) rfl x _ rfl rfl XW.out (by decide) ?_; intro w3 hm3 hg3; have M3 := Lib.hid hm3; have B3 := Lib.hid (HB.out.trans ((chg_of_grown hg3).below (fun g e => by injection e with e; omega) HB.out.size)); clear hm3 hg3)
              | fail)
            go_ret
            exact ⟨by rw [FB.out]; rfl, B3.out⟩
        · have hx3 : ¬ x > 4096 := hx2
          rcases h01 with rfl | rfl
          · have hc : (xs.take k).contains x = false := by
              unfold seenI at hvs
              cases h : (xs.take k).contains x
              · rfl
              · rw [h] at hvs; simp at hvs
            have FB := Lib.hid (NX.out true (by unfold kidB; rw [decide_eq_true (p := 1 ≤ x) (by omega), decide_eq_true (p := x ≤ 4096) (by omega), hc]; rfl))
            have HC := Lib.hid hc
            clear hvs hc
            go_wp2_with (first
              | (at_lookup; refine im_look _ rfl (.tmp 13) (.tmp 14) rfl HM.out rfl x rfl XW.out _ HV.out ?_)
              | (at_mapUpdate; refine im_put _ rfl (.tmp 13) (.tmp 14) (.tmp 16) rfl HM.out (by unfold maxLen; omega) rfl x _ rfl rfl XW.out (by decide) ?_; intro w3 hm3 hg3; have M3 := Lib.hid hm3; have B3 := Lib.hid (HB.out.trans ((chg_of_grown hg3).below (fun g e => by injection e with e; omega) HB.out.size)); clear hm3 hg3)
              | (at_lookup; refine im_glook _ (by rfl) (.tmp 24) (.tmp 25) rfl M3.out rfl x rfl XW.out 1 (by simp [upd]) ?_)
              | fail)
            refine ⟨⟨k + 1, by omega, by simp, FB.out, ⟨_, M3.out, fun y => ?_⟩, B3.out⟩, by simp [intOf]; omega⟩
            have q := SX.out y
            rw [show (1 : Int) = 0 + 1 from rfl]
            rw [q]
            have e := List.take_add_one (l := xs) (i := k)
            rw [HXK.out] at e
            rw [e]
            unfold seenI
            by_cases hy : y = x
            · subst hy; simp
            · rw [if_neg hy]; simp [hy]
          · have hc : (xs.take k).contains x = true := by
              unfold seenI at hvs
              cases h : (xs.take k).contains x
              · rw [h] at hvs; simp at hvs
              · rfl
            have FB := Lib.hid (show kidsB xs = false from kids_less (NX.out false (by unfold kidB; rw [hc]; simp)) _ (by rw [HL.out]; omega))
            clear hvs hc
            go_wp2_with (first
              | (at_lookup; refine im_look _ rfl (.tmp 13) (.tmp 14) rfl HM.out rfl x rfl XW.out _ HV.out ?_)
              | (at_mapUpdate; refine im_put _ rfl (.tmp 13) (.tmp 14) (.tmp 16) rfl HM.out (by unfold maxLen; omega) rfl x _ rfl rfl XW.out (by decide) ?_; intro w3 hm3 hg3; have M3 := Lib.hid hm3; have B3 := Lib.hid (HB.out.trans ((chg_of_grown hg3).below (fun g e => by injection e with e; omega) HB.out.size)); clear hm3 hg3)
              | (at_lookup; refine im_glook _ (by rfl) (.tmp 24) (.tmp 25) rfl M3.out rfl x rfl XW.out 2 (by simp [upd]) ?_)
              | fail)
            go_ret
            exact ⟨by rw [FB.out]; rfl, B3.out⟩
    · have hk1 : ¬ (k : Int) < (n : Int) := by omega
      have e : k = n := by omega
      have FB := Lib.hid (show kidsB xs = true by unfold kidsB; rw [HL.out, ← e]; exact HK.out)
      go_wp2
      go_ret
      exact ⟨by rw [FB.out]; rfl, HB.out⟩
end Go.Proofs.YtilnpeekajnlhaaGreat
namespace Go.Proofs.YtilnpeekajnlhaaGreat
open Go.RowKit Go.Maps
/-- A node that is right for a range. -/
structure RN (kd : Int) (n k b : Nat) (ps : List ByteArray) (ks : List Int) (ms : List MG) (f t : ByteArray) : Prop where
  hkd : kd = 2
  hb : b = 0
  hk : k = n + 1
  hps : Pv.rightB ps f t = true
  hks : kidsB ks = true
  hms : rightB ms = true
  hwi : ms.all (wiR f t) = true
set_option maxRecDepth 100000 in
set_option maxHeartbeats 8000000 in
theorem iright_true (kd : Int) (P J M B : Option Addr) (n pc k kc m mc b bc : Nat) (ps : List ByteArray) (ks : List Int) (ms : List MG) (f t : ByteArray) (w : World) (hl : ps.length = n) (hn : n ≤ 100) (hP : Pv.RdS w P ps) (hkl : ks.length = k) (hJ : EI.Rd w J ks) (hx : ∀ x ∈ ks, (Lit.int .i64 x).wf = true) (hm : ms.length = m) (hm1 : m ≤ 1000) (hM : EG.Rd w M ms) (ho : OkA ms) (hr : RN kd n k b ps ks ms f t) :
    Calls Tryz.prog 11 #[NV kd (.slice P n pc) (.slice J k kc) (.slice M m mc) (.slice B b bc), .agg #[.string f, .string t]] w fun e w' => e = .returned (.bool true) ∧ Below w.heap.size w w' := by
  have A1 := Lib.hid (fun W (h : Below w.heap.size w W) => Pv.right_any P ps n pc f t W hl (by omega) (Rd.later hP h))
  rw [hr.hps] at A1
  have A2 := Lib.hid (fun W (h : Below w.heap.size w W) => rightKids_any J k kc ks W hkl (by have := hr.hk; omega) (hJ.later h) hx)
  rw [hr.hks] at A2
  have A3 := Lib.hid (fun W (h : Below w.heap.size w W) => right_any M m mc ms W hm hm1 (hM.later h) ho)
  rw [hr.hms] at A3
  have A4 := Lib.hid (fun W (h : Below w.heap.size w W) => withinA_any f t M m mc ms W hm hm1 (hM.later h) ho)
  rw [hr.hwi] at A4
  obtain ⟨rfl, rfl, hk, -, -, -, -⟩ := hr
  have hw : IntKind.i64.wrap ((k : Int) - 1) = (n : Int) := by rw [IntWalk.i64_in _ (by omega)]; omega
  clear hl hP hkl hJ hx hm hM ho hk
  have y1 := two_new w (NO 2 (.slice P n pc) (.slice J k kc) (.slice M m mc) (.slice B 0 bc)) (rgc f t)
  have H0 := Lib.hid (bel_alloc (alb w (NO 2 (.slice P n pc) (.slice J k kc) (.slice M m mc) (.slice B 0 bc))) (rgc f t))
  have Z := Lib.hid y1.1
  have Y := Lib.hid y1.2
  clear y1
  obtain ⟨c0, c1, c2, c3, c4⟩ := cells5 Z.out
  obtain ⟨d0, d1, -, -⟩ := has_two Y.out
  go_enter Tryz.func11, Tryz.ntmps11
  go_wp2_with (first
    | (go_at_call 29; ((with_reducible refine (A1.out _ H0.out).mono ?_); rintro e w1 ⟨rfl, b1⟩; replace H0 := Lib.hid (bel_trans H0.out b1); replace Z := Lib.hid (keep_bel b1 Z.out); replace Y := Lib.hid (keep_bel b1 Y.out); clear b1 c0 c1 c2 c3 c4 d0 d1; obtain ⟨c0, c1, c2, c3, c4⟩ := cells5 Z.out; obtain ⟨d0, d1, -, -⟩ := has_two Y.out))
    | (go_at_call 30; ((with_reducible refine (A2.out _ H0.out).mono ?_); rintro e w2 ⟨rfl, b2⟩; replace H0 := Lib.hid (bel_trans H0.out b2); replace Z := Lib.hid (keep_bel b2 Z.out); replace Y := Lib.hid (keep_bel b2 Y.out); clear b2 c0 c1 c2 c3 c4 d0 d1; obtain ⟨c0, c1, c2, c3, c4⟩ := cells5 Z.out; obtain ⟨d0, d1, -, -⟩ := has_two Y.out))
    | (go_at_call 31; ((with_reducible refine (A3.out _ H0.out).mono ?_); rintro e w3 ⟨rfl, b3⟩; replace H0 := Lib.hid (bel_trans H0.out b3); replace Z := Lib.hid (keep_bel b3 Z.out); replace Y := Lib.hid (keep_bel b3 Y.out); clear b3 c0 c1 c2 c3 c4 d0 d1; obtain ⟨c0, c1, c2, c3, c4⟩ := cells5 Z.out; obtain ⟨d0, d1, -, -⟩ := has_two Y.out))
    | (go_at_call 32; ((with_reducible refine (A4.out _ H0.out).mono ?_); rintro e w4 ⟨rfl, b4⟩; replace H0 := Lib.hid (bel_trans H0.out b4); replace Z := Lib.hid (keep_bel b4 Z.out); replace Y := Lib.hid (keep_bel b4 Y.out); clear b4 c0 c1 c2 c3 c4 d0 d1; obtain ⟨c0, c1, c2, c3, c4⟩ := cells5 Z.out; obtain ⟨d0, d1, -, -⟩ := has_two Y.out))
    | fail)
  go_ret
  exact ⟨rfl, H0.out⟩
end Go.Proofs.YtilnpeekajnlhaaGreat
namespace Go.Proofs.YtilnpeekajnlhaaGreat
open Go.RowKit Go.Maps
def rnB (kd : Int) (n k b : Nat) (ps : List ByteArray) (ks : List Int) (ms : List MG) (f t : ByteArray) : Bool :=
  (kd == 2) && (((b : Int) == 0) && (((k : Int) == (n : Int) + 1) && (Pv.rightB ps f t && (kidsB ks && (rightB ms && ms.all (wiR f t))))))
theorem rnB_iff {kd : Int} {n k b : Nat} {ps : List ByteArray} {ks : List Int} {ms : List MG} {f t : ByteArray} : rnB kd n k b ps ks ms f t = true ↔ RN kd n k b ps ks ms f t := by
  unfold rnB
  simp only [Bool.and_eq_true, beq_iff_eq]
  constructor
  · rintro ⟨h1, h2, h3, h4, h5, h6, h7⟩
    exact ⟨h1, by omega, by omega, h4, h5, h6, h7⟩
  · rintro ⟨h1, h2, h3, h4, h5, h6, h7⟩
    exact ⟨h1, by omega, by omega, h4, h5, h6, h7⟩
theorem kids_at {l : List Int} {j : Nat} {x : Int} (hx : l[j]? = some x) : kidsK l (j + 1) = (kidsK l j && kidB (l.take j) x) := by
  show (kidsK l j && _) = _
  rw [hx]
set_option maxRecDepth 100000 in
set_option maxHeartbeats 8000000 in
theorem rright14 (kd : Int) (P J M B : Option Addr) (n pc k kc m mc b bc : Nat) (ps : List ByteArray) (ks : List Int) (ms : List MG) (f t : ByteArray) (w : World) (hl : ps.length = n) (hn : n ≤ 100) (hP : Pv.RdS w P ps) (hkl : ks.length = k) (hk1 : k ≤ 1000) (hJ : EI.Rd w J ks) (hm : ms.length = m) (hm1 : m ≤ 1000) (hM : EG.Rd w M ms) (ho : OkA ms) :
    Calls Tryz.prog 5 #[NV kd (.slice P n pc) (.slice J k kc) (.slice M m mc) (.slice B b bc), .agg #[.string f, .string t]] w fun e w' => e = .returned (.bool (rnB kd n k b ps ks ms f t)) ∧ Below w.heap.size w w' := by
  have A1 := Lib.hid (fun W (h : Below w.heap.size w W) => Pv.rright_all P ps n pc f t W hl (by omega) (Rd.later hP h))
  have A3 := Lib.hid (fun W (h : Below w.heap.size w W) => rright_all M m mc ms W hm hm1 (hM.later h) ho)
  have A4 := Lib.hid (fun W (h : Below w.heap.size w W) => rwithinA_any f t M m mc ms W hm hm1 (hM.later h) ho)
  have JJ := Lib.hid (fun W (h : Below w.heap.size w W) => hJ.later h)
  have HKL := Lib.hid hkl
  clear hl hP hkl hJ hm hm1 hM ho
  have y1 := two_new w (NO kd (.slice P n pc) (.slice J k kc) (.slice M m mc) (.slice B b bc)) (rgc f t)
  have H0 := Lib.hid (bel_alloc (alb w (NO kd (.slice P n pc) (.slice J k kc) (.slice M m mc) (.slice B b bc))) (rgc f t))
  have Z := Lib.hid y1.1
  have Y := Lib.hid y1.2
  clear y1
  obtain ⟨c0, c1, c2, c3, c4⟩ := cells5 Z.out
  obtain ⟨d0, d1, -, -⟩ := has_two Y.out
  have hn0 : (0 : Int) ≤ (n : Int) := by omega
  have hn9 : (n : Int) ≤ 100 := by omega
  have hk0 : (0 : Int) ≤ (k : Int) := by omega
  have hk9 : (k : Int) ≤ 1000 := by omega
  by_cases e1 : kd = 2
  case neg =>
    have h1 : (kd != 2) = true := by simpa using e1
    have FB := Lib.hid (show rnB kd n k b ps ks ms f t = false by unfold rnB; rw [beq_eq_false_iff_ne.2 e1]; rfl)
    clear A3 A4
    go_enter Tryz.func5, Tryz.ntmps5
    go_wp2
    go_ret
    exact ⟨by rw [FB.out]; rfl, H0.out⟩
  subst e1
  by_cases e2 : (b : Int) = 0
  case neg =>
    have h2 : ((b : Int) != 0) = true := by simpa using e2
    have h2b : ¬ b = 0 := by omega
    have FB := Lib.hid (show rnB 2 n k b ps ks ms f t = false by unfold rnB; rw [beq_eq_false_iff_ne.2 e2]; rfl)
    clear A3 A4
    go_enter Tryz.func5, Tryz.ntmps5
    go_wp2
    go_ret
    exact ⟨by rw [FB.out]; rfl, H0.out⟩
  have h2b : b = 0 := by omega
  subst h2b
  clear e2
  by_cases e3 : (k : Int) = (n : Int) + 1
  case neg =>
    have h3 : ((k : Int) != (n : Int) + 1) = true := by simpa using e3
    have FB := Lib.hid (show rnB 2 n k 0 ps ks ms f t = false by unfold rnB; rw [beq_eq_false_iff_ne.2 e3]; simp)
    clear A3 A4
    go_enter Tryz.func5, Tryz.ntmps5
    go_wp2
    go_ret
    exact ⟨by rw [FB.out]; rfl, H0.out⟩
  have h3 : ((k : Int) != (n : Int) + 1) = false := by simpa using e3
  cases e4 : Pv.rightB ps f t
  case false =>
    have FB := Lib.hid (show rnB 2 n k 0 ps ks ms f t = false by unfold rnB; rw [e4]; simp)
    rw [e4] at A1
    clear A3 A4
    go_enter Tryz.func5, Tryz.ntmps5
    go_wp2_with (first
      | (go_at_call 16; ((with_reducible refine (A1.out _ H0.out).mono ?_); rintro e w1 ⟨rfl, b1⟩; replace H0 := Lib.hid (bel_trans H0.out b1); replace Z := Lib.hid (keep_bel b1 Z.out); replace Y := Lib.hid (keep_bel b1 Y.out); clear b1 c0 c1 c2 c3 c4 d0 d1; obtain ⟨c0, c1, c2, c3, c4⟩ := cells5 Z.out; obtain ⟨d0, d1, -, -⟩ := has_two Y.out))
      | fail)
    go_ret
    exact ⟨by rw [FB.out]; rfl, H0.out⟩
  rw [e4] at A1
  have NB := Lib.hid (show rnB 2 n k 0 ps ks ms f t = (kidsB ks && (rightB ms && ms.all (wiR f t))) by unfold rnB; rw [e4, beq_iff_eq.2 e3]; rfl)
  have E3 := Lib.hid e3
  clear e4 e3
  go_enter Tryz.func5, Tryz.ntmps5
  go_wp2_with (first
    | (go_at_call 16; ((with_reducible refine (A1.out _ H0.out).mono ?_); rintro e w1 ⟨rfl, b1⟩; replace H0 := Lib.hid (bel_trans H0.out b1); replace Z := Lib.hid (keep_bel b1 Z.out); replace Y := Lib.hid (keep_bel b1 Y.out); clear b1 c0 c1 c2 c3 c4 d0 d1; obtain ⟨c0, c1, c2, c3, c4⟩ := cells5 Z.out; obtain ⟨d0, d1, -, -⟩ := has_two Y.out))
    | fail)
  go_loopw [5, 6] (fun iv jv wr => ∃ i : Nat, i ≤ k ∧ iv = .int .i64 i ∧ kidsK ks i = true ∧ wr.heap[w.heap.size]? = some (NO 2 (.slice P n pc) (.slice J k kc) (.slice M m mc) (.slice B 0 bc)) ∧ wr.heap[w.heap.size + 1]? = some (rgc f t) ∧ Below w.heap.size w wr) (fun i _ _ => k - (intOf i).toNat)
  case atStart => exact ⟨0, Nat.zero_le _, rfl, rfl, Z.out, Y.out, H0.out⟩
  case round =>
    obtain ⟨i, hi, rfl, hki, hz, hy, hb⟩ := hrel
    clear c0 c1 c2 c3 c4 d0 d1
    replace Z := Lib.hid hz
    replace Y := Lib.hid hy
    replace H0 := Lib.hid hb
    have HKI := Lib.hid hki
    clear hz hy hb hki
    obtain ⟨c0, c1, c2, c3, c4⟩ := cells5 Z.out
    obtain ⟨d0, d1, -, -⟩ := has_two Y.out
    have hi0 : (0 : Int) ≤ (i : Int) := by omega
    have hi9 : (i : Int) ≤ 1000 := by omega
    by_cases hik : i < k
    · have hlt : (i : Int) < (k : Int) := by omega
      obtain ⟨x, hx⟩ : ∃ x, ks[i]? = some x := ⟨_, List.getElem?_eq_getElem (by rw [HKL.out]; exact hik)⟩
      obtain ⟨b0, off, rfl, hlt0, k0⟩ := ei_at (JJ.out _ H0.out) hx
      have NX : Hid (kidsK ks (i + 1) = kidB (ks.take i) x) := Lib.hid (by rw [kids_at hx, HKI.out]; rfl)
      have FF : Hid (kidB (ks.take i) x = false → rnB 2 n k 0 ps ks ms f t = false) := Lib.hid (fun h => by rw [NB.out, show kidsB ks = false from kids_less (NX.out.trans h) _ (by rw [HKL.out]; omega)]; rfl)
      have HX := Lib.hid hx
      clear hx hlt0
      by_cases x1 : x < 1
      · have FB := Lib.hid (FF.out (by unfold kidB; rw [decide_eq_false (by omega)]; rfl))
        go_wp2
        go_ret
        exact ⟨by rw [FB.out]; rfl, H0.out⟩
      · by_cases x2 : x > 4096
        · have x3 : 4096 < x := x2
          have FB := Lib.hid (FF.out (by unfold kidB; rw [decide_eq_false (p := x ≤ 4096) (by omega)]; simp))
          go_wp2
          go_ret
          exact ⟨by rw [FB.out]; rfl, H0.out⟩
        · have x3 : ¬ 4096 < x := x2
          have KX := Lib.hid (show ∀ c, (ks.take i).contains x = c → kidB (ks.take i) x = !c by intro c hc; unfold kidB; rw [decide_eq_true (p := 1 ≤ x) (by omega), decide_eq_true (p := x ≤ 4096) (by omega), hc]; simp)
          go_wp2
          go_loopw [6] (fun jv wv => ∃ j : Nat, j ≤ i ∧ jv = .int .i64 j ∧ (ks.take j).contains x = false ∧ wv.heap[w.heap.size]? = some (NO 2 (.slice P n pc) (.slice (some ⟨b0, off, none⟩) k kc) (.slice M m mc) (.slice B 0 bc)) ∧ wv.heap[w.heap.size + 1]? = some (rgc f t) ∧ Below w.heap.size w wv) (fun j _ => i - (intOf j).toNat)
          case atStart => exact ⟨0, Nat.zero_le _, rfl, by simp, Z.out, Y.out, H0.out⟩
          case round =>
            obtain ⟨j, hj, rfl, hkj, hz, hy, hb⟩ := hrel
            clear c0 c1 c2 c3 c4 d0 d1 k0
            replace Z := Lib.hid hz
            replace Y := Lib.hid hy
            replace H0 := Lib.hid hb
            have HKJ := Lib.hid hkj
            clear hz hy hb hkj
            obtain ⟨c0, c1, c2, c3, c4⟩ := cells5 Z.out
            obtain ⟨d0, d1, -, -⟩ := has_two Y.out
            have hj0 : (0 : Int) ≤ (j : Int) := by omega
            have hj9 : (j : Int) ≤ 1000 := by omega
            by_cases hji : j < i
            · have hjl : (j : Int) < (i : Int) := by omega
              have hjk : (j : Int) < (k : Int) := by omega
              obtain ⟨y, hy⟩ : ∃ y, ks[j]? = some y := ⟨_, List.getElem?_eq_getElem (by rw [HKL.out]; omega)⟩
              obtain ⟨b1, off1, e5, _, k1⟩ := ei_at (JJ.out _ H0.out) hy
              cases e5
              obtain ⟨b2, off2, e6, _, k2⟩ := ei_at (JJ.out _ H0.out) HX.out
              cases e6
              have TK := Lib.hid (show (ks.take (j + 1)).contains x = (x == y) by
                have e := List.take_add_one (l := ks) (i := j)
                rw [hy] at e
                rw [e, List.contains_append, HKJ.out, Bool.false_or, Bool.eq_iff_iff]
                simp)
              clear hy
              cases hxy : (y == x)
              · have hxy2 : (y == x) = false := hxy
                have hxy3 : ¬ y = x := by simpa using hxy
                go_wp2_with fail
                go_quiet (fail)
                go_wp2
                exact ⟨⟨j + 1, by omega, by simp, by rw [TK.out]; simpa using fun h => hxy3 h.symm, Z.out, Y.out, bel_drewN H0.out _⟩, by simp [intOf]; omega⟩
              · have hxy3 : y = x := by simpa using hxy
                have FB := Lib.hid (FF.out (by
                  rw [KX.out true (by
                    rw [List.contains_iff_mem]
                    have : x ∈ ks.take (j + 1) := by rw [← List.contains_iff_mem, TK.out]; simp [hxy3]
                    exact List.mem_of_mem_take (i := j + 1) (by rw [List.take_take]; rw [Nat.min_eq_left (by omega)]; exact this))]
                  rfl))
                go_wp2_with fail
                go_quiet (fail)
                go_wp2
                go_ret
                exact ⟨by rw [FB.out]; rfl, bel_drewN H0.out _⟩
            · have hjl : ¬ (j : Int) < (i : Int) := by omega
              have e : j = i := by omega
              subst e
              have FB := Lib.hid (show kidsK ks (j + 1) = true by rw [NX.out, KX.out _ HKJ.out]; rfl)
              go_wp2
              exact ⟨⟨j + 1, by omega, by simp, FB.out, Z.out, Y.out, H0.out⟩, by simp [intOf]; omega⟩
    · have hlt : ¬ (i : Int) < (k : Int) := by omega
      have e : i = k := by omega
      have KB : kidsB ks = true := by unfold kidsB; rw [HKL.out, ← e]; exact HKI.out
      rw [KB] at NB
      cases r1 : rightB ms
      · rw [r1] at NB A3
        go_wp2_with (first
          | (go_at_call 17; ((with_reducible refine (A3.out _ H0.out).mono ?_); rintro e w1 ⟨rfl, b1⟩; replace H0 := Lib.hid (bel_trans H0.out b1); replace Z := Lib.hid (keep_bel b1 Z.out); replace Y := Lib.hid (keep_bel b1 Y.out); clear b1 c0 c1 c2 c3 c4 d0 d1; obtain ⟨c0, c1, c2, c3, c4⟩ := cells5 Z.out; obtain ⟨d0, d1, -, -⟩ := has_two Y.out))
          | fail)
        go_ret
        exact ⟨by rw [NB.out]; rfl, H0.out⟩
      · rw [r1] at NB A3
        cases r2 : ms.all (wiR f t)
        all_goals
          rw [r2] at NB A4
          go_wp2_with (first
            | (go_at_call 17; ((with_reducible refine (A3.out _ H0.out).mono ?_); rintro e w1 ⟨rfl, b1⟩; replace H0 := Lib.hid (bel_trans H0.out b1); replace Z := Lib.hid (keep_bel b1 Z.out); replace Y := Lib.hid (keep_bel b1 Y.out); clear b1 c0 c1 c2 c3 c4 d0 d1; obtain ⟨c0, c1, c2, c3, c4⟩ := cells5 Z.out; obtain ⟨d0, d1, -, -⟩ := has_two Y.out))
            | (go_at_call 18; ((with_reducible refine (A4.out _ H0.out).mono ?_); rintro e w1 ⟨rfl, b1⟩; replace H0 := Lib.hid (bel_trans H0.out b1); replace Z := Lib.hid (keep_bel b1 Z.out); replace Y := Lib.hid (keep_bel b1 Y.out); clear b1 c0 c1 c2 c3 c4 d0 d1; obtain ⟨c0, c1, c2, c3, c4⟩ := cells5 Z.out; obtain ⟨d0, d1, -, -⟩ := has_two Y.out))
            | fail)
          go_ret
          exact ⟨by rw [NB.out]; rfl, H0.out⟩
end Go.Proofs.YtilnpeekajnlhaaGreat
