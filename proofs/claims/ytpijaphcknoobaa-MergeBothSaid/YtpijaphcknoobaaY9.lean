/- Each: what a function makes of a row's things. -/
import Derived.Test.YtpijaphcknoobaaY8
import Derived.Test.YtpijaphcknoobaaIX5
namespace Go.Proofs.Ytpijaphcknoobaa
set_option linter.unusedSimpArgs false
open Go.RowKit Go.Shelf
set_option linter.unusedVariables false
attribute [local go_sem] Oper.semAt_some

/-- What lies between the tellings. -/
structure EcJ (J : Nat → (Nat → Prop) → World → Prop) (w0 : World) (l yb k : Nat) (E : Nat → Prop) (V : World) : Prop where
  j : J k E V
  ny : ¬ E yb
  by_ : Boxed V yb 66 (yv l)
  b0 : Below w0.heap.size w0 V
  lo : ∀ g, E g → w0.heap.size ≤ g
theorem ecJ_loc {J : Nat → (Nat → Prop) → World → Prop} {B B' : Nat} (hJ : LocB B J) (hB : B ≤ B') {w0 : World} {l yb : Nat} (hy : yb < B') (h0 : w0.heap.size ≤ B') : LocB B' (EcJ J w0 l yb) := by
  rintro k E V V' ⟨h1, h2, h3, h4, h5⟩ hc
  exact ⟨hJ _ _ _ _ h1 (hc.more (fun g hg => .inl ⟨hg.1, by omega⟩)), h2, boxed_chg h3 hc (fun h => by omega), h4.trans (hc.below (fun g hg => Nat.le_trans h0 hg.2) h4.size), h5⟩
theorem tell_bool {J Jx : Nat → (Nat → Prop) → World → Prop} {k : Nat} {D : Nat → Prop} {W : World} {e : Ending} {W' : World} (h : TellPost J Jx k D W e W') : ∃ r, e = .returned (.bool r) ∧ TellPost J Jx k D W (.returned (.bool r)) W' := by
  have h' := h
  obtain ⟨D', h1, h2, (⟨rfl, h3⟩ | ⟨rfl, h3⟩)⟩ := h
  · exact ⟨_, rfl, h'⟩
  · exact ⟨_, rfl, h'⟩
theorem ec_fin {J Jx : Nat → (Nat → Prop) → World → Prop} {w0 V U W3 : World} {l yb k : Nat} {E : Nat → Prop} {r : Bool} (hb : Below V.heap.size V U) (h2 : ¬ E yb) (h3 : Boxed U yb 66 (yv l)) (h4 : Below w0.heap.size w0 V) (h5 : ∀ g, E g → w0.heap.size ≤ g)
    (h : TellPost J Jx k E U (.returned (.bool r)) W3) : TellPost (EcJ J w0 l yb) Jx k E V (.returned (.bool r)) W3 := by
  obtain ⟨D', hg, hc, h⟩ := h
  have hG := gc_step (Gr.refl E V U) (Chg.of_below hb) (Below.refl _ _) hg hc
  have b0U := h4.trans (hb.mono h4.size)
  refine ⟨D', hG.1, hG.2, ?_⟩
  rcases h with ⟨he, hj⟩ | ⟨he, hj⟩
  · exact .inl ⟨he, hj, gr_not hg h2 h3.lt, boxed_chg h3 hc h2, b0U.trans (hc.below h5 b0U.size), fun g hg' => (hg g hg').elim (h5 g) (fun q => Nat.le_trans b0U.size q.1)⟩
  · exact .inr ⟨he, hj⟩
set_option maxRecDepth 100000 in
set_option maxHeartbeats 4000000 in
theorem each2_any {xs : List TT} {mk : TT → Int} {w0 : World} {f : FuncId} (ef : ∀ args w, (callFunc f args).run Try.prog w = .ok (.enter f args) w) {cap : Array Value}
    (hf : ∀ (x : TT) (U : World), Below w0.heap.size w0 U → Calls Try.prog f (enc x ++ cap) U fun e w' => e = .returned (.int .i64 (mk x)) ∧ Below U.heap.size U w') {bo : Nat} (hbo : Boxed w0 bo 52 (.func (.func f) #[] cap))
    {J Jx : Nat → (Nat → Prop) → World → Prop} {B l yb : Nat} (hJ : LocB B J)
    (hY : ∀ m k y D W, (xs.map mk)[k]? = some y → J k D W → In D W → YieldAt Fence.wide m Try.prog l (I.enc y) W (TellPost J Jx k D W))
    (k : Nat) (x : TT) (E : Nat → Prop) (V : World) (hx : xs[k]? = some x) (hE : EcJ J w0 l yb k E V) (hin : In E V) :
    Calls Try.prog 50 (enc x ++ #[.pointer (some ⟨yb, 0, none⟩), .pointer (some ⟨bo, 0, none⟩)]) V (TellPost (EcJ J w0 l yb) Jx k E V) := by
  obtain ⟨h1, h2, h3, h4, h5⟩ := hE
  refine (callsIn_wide (n := 3)).1 ?_
  have hV : Below V.heap.size V (V.alloc (kv x)).drew := bel_dw (bel_alloc (Below.refl _ _) _)
  have cb := (boxed_later (boxed_later hbo h4) hV).cell
  have cy := (boxed_later h3 hV).cell
  have lb := (boxed_later hbo h4).lt
  have ly := h3.lt
  have OK := Lib.hid (hf x (V.alloc (kv x)).drew (h4.trans (hV.mono h4.size)))
  have H1 := Lib.hid h1
  have H3 := Lib.hid h3
  have HIN := Lib.hid hin
  have HV := Lib.hid hV
  have HX : Hid ((xs.map mk)[k]? = some (mk x)) := Lib.hid (by rw [List.getElem?_map, hx]; rfl)
  have HY := Lib.hid hY
  have HJ := Lib.hid hJ
  have H4 := Lib.hid h4
  have H5 := Lib.hid h5
  have hmix : Try.prog.follows .mixedOrders = true := by kernel_rfl
  obtain ⟨x0, x1⟩ := x
  have cx0 : (V.alloc (kv (x0, x1))).drew.cell? ⟨V.heap.size, 0, none⟩ = some (.int .i64 x0) := by simp [go_sem]
  have cx1 : (V.alloc (kv (x0, x1))).drew.cell? ⟨V.heap.size, 1, none⟩ = some (.int .i64 x1) := by simp [go_sem]
  simp only [enc] at OK
  clear hf hbo h1 h3 h4 h5 hin hV hx hY hJ
  refine callsIn_of_wp Try.func50 rfl trivial ?_ rfl
  simp only [Try.ntmps50, List.size_toArray, List.length_cons, List.length_nil, Nat.reduceAdd, Nat.reduceSub, Array.replicate_succ, Array.replicate_zero, List.push_toArray, List.append_toArray, List.nil_append, List.cons_append]
  gi_wp2_with fail
  refine wpIn_region_any hmix ?_
  change wpAnyIn _ _ _ _ _ _ _ _ _ (World.drew _)
  refine wpAnyIn_ready (rs := [0, 1, 2]) (by kernel_rfl) (by simp) ?_
  refine AllReadyIn.cons (o := { dst := some 5, op := Op.load 66 (Operand.tmp 1), type := 66, pos := "merge.go:83", after := #[], guard := none }) rfl (fun K hK => ?_) (AllReadyIn.cons (o := { dst := some 6, op := Op.load 52 (Operand.tmp 2), type := 52, pos := "merge.go:83", after := #[], guard := none }) rfl (fun K hK => ?_) (AllReadyIn.cons (o := { dst := some 7, op := Op.load 29 (Operand.tmp 3), type := 29, pos := "merge.go:83", after := #[], guard := none }) rfl (fun K hK => ?_) AllReadyIn.nil))
  · skip
    go_simp
    refine hK _ _ ?_
    clear hK K
    try simp only [Act.put, List.setIfInBounds_toArray, List.set_cons_zero, List.set_cons_succ]
    refine wpAnyIn_ready (rs := [1, 2]) (by kernel_rfl) (by simp) ?_
    refine AllReadyIn.cons (o := { dst := some 6, op := Op.load 52 (Operand.tmp 2), type := 52, pos := "merge.go:83", after := #[], guard := none }) rfl (fun K hK => ?_) (AllReadyIn.cons (o := { dst := some 7, op := Op.load 29 (Operand.tmp 3), type := 29, pos := "merge.go:83", after := #[], guard := none }) rfl (fun K hK => ?_) AllReadyIn.nil)
    · skip
      go_simp
      refine hK _ _ ?_
      clear hK K
      try simp only [Act.put, List.setIfInBounds_toArray, List.set_cons_zero, List.set_cons_succ]
      refine wpAnyIn_ready (rs := [2]) (by kernel_rfl) (by simp) ?_
      refine AllReadyIn.cons (o := { dst := some 7, op := Op.load 29 (Operand.tmp 3), type := 29, pos := "merge.go:83", after := #[], guard := none }) rfl (fun K hK => ?_) AllReadyIn.nil
      go_simp
      refine hK _ _ ?_
      clear hK K
      try simp only [Act.put, List.setIfInBounds_toArray, List.set_cons_zero, List.set_cons_succ]
      refine wpAnyIn_ready (rs := [3]) (by kernel_rfl) (by simp) ?_
      refine AllReadyIn.cons (o := { dst := some 8, op := Op.call { callee := Callee.value (Operand.tmp 6), args := #[Operand.tmp 7], argTypes := #[29] }, type := 3, pos := "merge.go:83", after := #[{ on := 1, ground := Ground.data }, { on := 2, ground := Ground.data }], guard := none }) rfl (fun K hK => ?_) AllReadyIn.nil
      go_simp
      (refine ⟨trivial, ?_⟩; refine (callsIn_wide.2 OK.out).mono ?_; rintro e U ⟨rfl, hb⟩; have HU := Lib.hid (HV.out.trans (hb.mono HV.out.size)); have cyU := bel_later hb cy; clear hb)
      refine hK _ _ ?_
      clear hK K
      try simp only [Act.put, List.setIfInBounds_toArray, List.set_cons_zero, List.set_cons_succ]
      refine wpAnyIn_ready (rs := [4]) (by kernel_rfl) (by simp) ?_
      refine AllReadyIn.cons (o := { dst := some 9, op := Op.call { callee := Callee.value (Operand.tmp 5), args := #[Operand.tmp 8], argTypes := #[3] }, type := 4, pos := "merge.go:83", after := #[{ on := 0, ground := Ground.data }, { on := 3, ground := Ground.data }, { on := 3, ground := Ground.chain }], guard := none }) rfl (fun K hK => ?_) AllReadyIn.nil
      (obtain ⟨fn, tmps, assign, body, hy, hRd⟩ := HY.out 2 k (mk (x0, x1)) E U HX.out (HJ.out.bel H1.out HU.out) (HIN.out.more HU.out.size); have HRD := Lib.hid hRd; simp only [I.enc] at hy; clear hRd)
      go_simp
      (refine HRD.out.mono ?_; rintro e W3 ht; obtain ⟨r, rfl, ht⟩ := tell_bool ht; have HT := Lib.hid ht; clear ht)
      refine hK _ _ ?_
      clear hK K
      try simp only [Act.put, List.setIfInBounds_toArray, List.set_cons_zero, List.set_cons_succ]
      refine wpAnyIn_take (i := 5) (oi := { dst := some 4, op := Op.assign (Operand.tmp 9), type := 4, pos := "merge.go:83", after := #[{ on := 4, ground := Ground.data }, { on := 4, ground := Ground.chain }, { on := 0, ground := Ground.phase }, { on := 1, ground := Ground.phase }, { on := 2, ground := Ground.phase }, { on := 3, ground := Ground.phase }, { on := 4, ground := Ground.phase }], guard := none }) (v := ?_) rfl rfl (by kernel_rfl) (by kernel_rfl) (by kernel_rfl) (fun _ _ _ h => h) ⟨Or.inl ⟨by rfl, ?_⟩, fun _ => rfl⟩ ?_
      rotate_left
      · intro w; go_simp; try with_reducible rfl
      try simp only [Act.put, List.setIfInBounds_toArray, List.set_cons_zero, List.set_cons_succ]
      refine wpAnyIn_done (by kernel_rfl) ?_ _
      gi_wp2
      refine bodyPost_ret (v := .bool r) (by simp [results, Try.results50, go_sem]) rfl (ec_fin HU.out h2 (boxed_later H3.out HU.out) H4.out H5.out HT.out)
    · skip
      go_simp
      refine hK _ _ ?_
      clear hK K
      try simp only [Act.put, List.setIfInBounds_toArray, List.set_cons_zero, List.set_cons_succ]
      refine wpAnyIn_ready (rs := [1]) (by kernel_rfl) (by simp) ?_
      refine AllReadyIn.cons (o := { dst := some 6, op := Op.load 52 (Operand.tmp 2), type := 52, pos := "merge.go:83", after := #[], guard := none }) rfl (fun K hK => ?_) AllReadyIn.nil
      go_simp
      refine hK _ _ ?_
      clear hK K
      try simp only [Act.put, List.setIfInBounds_toArray, List.set_cons_zero, List.set_cons_succ]
      refine wpAnyIn_ready (rs := [3]) (by kernel_rfl) (by simp) ?_
      refine AllReadyIn.cons (o := { dst := some 8, op := Op.call { callee := Callee.value (Operand.tmp 6), args := #[Operand.tmp 7], argTypes := #[29] }, type := 3, pos := "merge.go:83", after := #[{ on := 1, ground := Ground.data }, { on := 2, ground := Ground.data }], guard := none }) rfl (fun K hK => ?_) AllReadyIn.nil
      go_simp
      (refine ⟨trivial, ?_⟩; refine (callsIn_wide.2 OK.out).mono ?_; rintro e U ⟨rfl, hb⟩; have HU := Lib.hid (HV.out.trans (hb.mono HV.out.size)); have cyU := bel_later hb cy; clear hb)
      refine hK _ _ ?_
      clear hK K
      try simp only [Act.put, List.setIfInBounds_toArray, List.set_cons_zero, List.set_cons_succ]
      refine wpAnyIn_ready (rs := [4]) (by kernel_rfl) (by simp) ?_
      refine AllReadyIn.cons (o := { dst := some 9, op := Op.call { callee := Callee.value (Operand.tmp 5), args := #[Operand.tmp 8], argTypes := #[3] }, type := 4, pos := "merge.go:83", after := #[{ on := 0, ground := Ground.data }, { on := 3, ground := Ground.data }, { on := 3, ground := Ground.chain }], guard := none }) rfl (fun K hK => ?_) AllReadyIn.nil
      (obtain ⟨fn, tmps, assign, body, hy, hRd⟩ := HY.out 2 k (mk (x0, x1)) E U HX.out (HJ.out.bel H1.out HU.out) (HIN.out.more HU.out.size); have HRD := Lib.hid hRd; simp only [I.enc] at hy; clear hRd)
      go_simp
      (refine HRD.out.mono ?_; rintro e W3 ht; obtain ⟨r, rfl, ht⟩ := tell_bool ht; have HT := Lib.hid ht; clear ht)
      refine hK _ _ ?_
      clear hK K
      try simp only [Act.put, List.setIfInBounds_toArray, List.set_cons_zero, List.set_cons_succ]
      refine wpAnyIn_take (i := 5) (oi := { dst := some 4, op := Op.assign (Operand.tmp 9), type := 4, pos := "merge.go:83", after := #[{ on := 4, ground := Ground.data }, { on := 4, ground := Ground.chain }, { on := 0, ground := Ground.phase }, { on := 1, ground := Ground.phase }, { on := 2, ground := Ground.phase }, { on := 3, ground := Ground.phase }, { on := 4, ground := Ground.phase }], guard := none }) (v := ?_) rfl rfl (by kernel_rfl) (by kernel_rfl) (by kernel_rfl) (fun _ _ _ h => h) ⟨Or.inl ⟨by rfl, ?_⟩, fun _ => rfl⟩ ?_
      rotate_left
      · intro w; go_simp; try with_reducible rfl
      try simp only [Act.put, List.setIfInBounds_toArray, List.set_cons_zero, List.set_cons_succ]
      refine wpAnyIn_done (by kernel_rfl) ?_ _
      gi_wp2
      refine bodyPost_ret (v := .bool r) (by simp [results, Try.results50, go_sem]) rfl (ec_fin HU.out h2 (boxed_later H3.out HU.out) H4.out H5.out HT.out)
  · skip
    go_simp
    refine hK _ _ ?_
    clear hK K
    try simp only [Act.put, List.setIfInBounds_toArray, List.set_cons_zero, List.set_cons_succ]
    refine wpAnyIn_ready (rs := [0, 2]) (by kernel_rfl) (by simp) ?_
    refine AllReadyIn.cons (o := { dst := some 5, op := Op.load 66 (Operand.tmp 1), type := 66, pos := "merge.go:83", after := #[], guard := none }) rfl (fun K hK => ?_) (AllReadyIn.cons (o := { dst := some 7, op := Op.load 29 (Operand.tmp 3), type := 29, pos := "merge.go:83", after := #[], guard := none }) rfl (fun K hK => ?_) AllReadyIn.nil)
    · skip
      go_simp
      refine hK _ _ ?_
      clear hK K
      try simp only [Act.put, List.setIfInBounds_toArray, List.set_cons_zero, List.set_cons_succ]
      refine wpAnyIn_ready (rs := [2]) (by kernel_rfl) (by simp) ?_
      refine AllReadyIn.cons (o := { dst := some 7, op := Op.load 29 (Operand.tmp 3), type := 29, pos := "merge.go:83", after := #[], guard := none }) rfl (fun K hK => ?_) AllReadyIn.nil
      go_simp
      refine hK _ _ ?_
      clear hK K
      try simp only [Act.put, List.setIfInBounds_toArray, List.set_cons_zero, List.set_cons_succ]
      refine wpAnyIn_ready (rs := [3]) (by kernel_rfl) (by simp) ?_
      refine AllReadyIn.cons (o := { dst := some 8, op := Op.call { callee := Callee.value (Operand.tmp 6), args := #[Operand.tmp 7], argTypes := #[29] }, type := 3, pos := "merge.go:83", after := #[{ on := 1, ground := Ground.data }, { on := 2, ground := Ground.data }], guard := none }) rfl (fun K hK => ?_) AllReadyIn.nil
      go_simp
      (refine ⟨trivial, ?_⟩; refine (callsIn_wide.2 OK.out).mono ?_; rintro e U ⟨rfl, hb⟩; have HU := Lib.hid (HV.out.trans (hb.mono HV.out.size)); have cyU := bel_later hb cy; clear hb)
      refine hK _ _ ?_
      clear hK K
      try simp only [Act.put, List.setIfInBounds_toArray, List.set_cons_zero, List.set_cons_succ]
      refine wpAnyIn_ready (rs := [4]) (by kernel_rfl) (by simp) ?_
      refine AllReadyIn.cons (o := { dst := some 9, op := Op.call { callee := Callee.value (Operand.tmp 5), args := #[Operand.tmp 8], argTypes := #[3] }, type := 4, pos := "merge.go:83", after := #[{ on := 0, ground := Ground.data }, { on := 3, ground := Ground.data }, { on := 3, ground := Ground.chain }], guard := none }) rfl (fun K hK => ?_) AllReadyIn.nil
      (obtain ⟨fn, tmps, assign, body, hy, hRd⟩ := HY.out 2 k (mk (x0, x1)) E U HX.out (HJ.out.bel H1.out HU.out) (HIN.out.more HU.out.size); have HRD := Lib.hid hRd; simp only [I.enc] at hy; clear hRd)
      go_simp
      (refine HRD.out.mono ?_; rintro e W3 ht; obtain ⟨r, rfl, ht⟩ := tell_bool ht; have HT := Lib.hid ht; clear ht)
      refine hK _ _ ?_
      clear hK K
      try simp only [Act.put, List.setIfInBounds_toArray, List.set_cons_zero, List.set_cons_succ]
      refine wpAnyIn_take (i := 5) (oi := { dst := some 4, op := Op.assign (Operand.tmp 9), type := 4, pos := "merge.go:83", after := #[{ on := 4, ground := Ground.data }, { on := 4, ground := Ground.chain }, { on := 0, ground := Ground.phase }, { on := 1, ground := Ground.phase }, { on := 2, ground := Ground.phase }, { on := 3, ground := Ground.phase }, { on := 4, ground := Ground.phase }], guard := none }) (v := ?_) rfl rfl (by kernel_rfl) (by kernel_rfl) (by kernel_rfl) (fun _ _ _ h => h) ⟨Or.inl ⟨by rfl, ?_⟩, fun _ => rfl⟩ ?_
      rotate_left
      · intro w; go_simp; try with_reducible rfl
      try simp only [Act.put, List.setIfInBounds_toArray, List.set_cons_zero, List.set_cons_succ]
      refine wpAnyIn_done (by kernel_rfl) ?_ _
      gi_wp2
      refine bodyPost_ret (v := .bool r) (by simp [results, Try.results50, go_sem]) rfl (ec_fin HU.out h2 (boxed_later H3.out HU.out) H4.out H5.out HT.out)
    · skip
      go_simp
      refine hK _ _ ?_
      clear hK K
      try simp only [Act.put, List.setIfInBounds_toArray, List.set_cons_zero, List.set_cons_succ]
      refine wpAnyIn_ready (rs := [0, 3]) (by kernel_rfl) (by simp) ?_
      refine AllReadyIn.cons (o := { dst := some 5, op := Op.load 66 (Operand.tmp 1), type := 66, pos := "merge.go:83", after := #[], guard := none }) rfl (fun K hK => ?_) (AllReadyIn.cons (o := { dst := some 8, op := Op.call { callee := Callee.value (Operand.tmp 6), args := #[Operand.tmp 7], argTypes := #[29] }, type := 3, pos := "merge.go:83", after := #[{ on := 1, ground := Ground.data }, { on := 2, ground := Ground.data }], guard := none }) rfl (fun K hK => ?_) AllReadyIn.nil)
      · skip
        go_simp
        refine hK _ _ ?_
        clear hK K
        try simp only [Act.put, List.setIfInBounds_toArray, List.set_cons_zero, List.set_cons_succ]
        refine wpAnyIn_ready (rs := [3]) (by kernel_rfl) (by simp) ?_
        refine AllReadyIn.cons (o := { dst := some 8, op := Op.call { callee := Callee.value (Operand.tmp 6), args := #[Operand.tmp 7], argTypes := #[29] }, type := 3, pos := "merge.go:83", after := #[{ on := 1, ground := Ground.data }, { on := 2, ground := Ground.data }], guard := none }) rfl (fun K hK => ?_) AllReadyIn.nil
        go_simp
        (refine ⟨trivial, ?_⟩; refine (callsIn_wide.2 OK.out).mono ?_; rintro e U ⟨rfl, hb⟩; have HU := Lib.hid (HV.out.trans (hb.mono HV.out.size)); have cyU := bel_later hb cy; clear hb)
        refine hK _ _ ?_
        clear hK K
        try simp only [Act.put, List.setIfInBounds_toArray, List.set_cons_zero, List.set_cons_succ]
        refine wpAnyIn_ready (rs := [4]) (by kernel_rfl) (by simp) ?_
        refine AllReadyIn.cons (o := { dst := some 9, op := Op.call { callee := Callee.value (Operand.tmp 5), args := #[Operand.tmp 8], argTypes := #[3] }, type := 4, pos := "merge.go:83", after := #[{ on := 0, ground := Ground.data }, { on := 3, ground := Ground.data }, { on := 3, ground := Ground.chain }], guard := none }) rfl (fun K hK => ?_) AllReadyIn.nil
        (obtain ⟨fn, tmps, assign, body, hy, hRd⟩ := HY.out 2 k (mk (x0, x1)) E U HX.out (HJ.out.bel H1.out HU.out) (HIN.out.more HU.out.size); have HRD := Lib.hid hRd; simp only [I.enc] at hy; clear hRd)
        go_simp
        (refine HRD.out.mono ?_; rintro e W3 ht; obtain ⟨r, rfl, ht⟩ := tell_bool ht; have HT := Lib.hid ht; clear ht)
        refine hK _ _ ?_
        clear hK K
        try simp only [Act.put, List.setIfInBounds_toArray, List.set_cons_zero, List.set_cons_succ]
        refine wpAnyIn_take (i := 5) (oi := { dst := some 4, op := Op.assign (Operand.tmp 9), type := 4, pos := "merge.go:83", after := #[{ on := 4, ground := Ground.data }, { on := 4, ground := Ground.chain }, { on := 0, ground := Ground.phase }, { on := 1, ground := Ground.phase }, { on := 2, ground := Ground.phase }, { on := 3, ground := Ground.phase }, { on := 4, ground := Ground.phase }], guard := none }) (v := ?_) rfl rfl (by kernel_rfl) (by kernel_rfl) (by kernel_rfl) (fun _ _ _ h => h) ⟨Or.inl ⟨by rfl, ?_⟩, fun _ => rfl⟩ ?_
        rotate_left
        · intro w; go_simp; try with_reducible rfl
        try simp only [Act.put, List.setIfInBounds_toArray, List.set_cons_zero, List.set_cons_succ]
        refine wpAnyIn_done (by kernel_rfl) ?_ _
        gi_wp2
        refine bodyPost_ret (v := .bool r) (by simp [results, Try.results50, go_sem]) rfl (ec_fin HU.out h2 (boxed_later H3.out HU.out) H4.out H5.out HT.out)
      · skip
        go_simp
        (refine ⟨trivial, ?_⟩; refine (callsIn_wide.2 OK.out).mono ?_; rintro e U ⟨rfl, hb⟩; have HU := Lib.hid (HV.out.trans (hb.mono HV.out.size)); have cyU := bel_later hb cy; clear hb)
        refine hK _ _ ?_
        clear hK K
        try simp only [Act.put, List.setIfInBounds_toArray, List.set_cons_zero, List.set_cons_succ]
        refine wpAnyIn_ready (rs := [0]) (by kernel_rfl) (by simp) ?_
        refine AllReadyIn.cons (o := { dst := some 5, op := Op.load 66 (Operand.tmp 1), type := 66, pos := "merge.go:83", after := #[], guard := none }) rfl (fun K hK => ?_) AllReadyIn.nil
        go_simp
        refine hK _ _ ?_
        clear hK K
        try simp only [Act.put, List.setIfInBounds_toArray, List.set_cons_zero, List.set_cons_succ]
        refine wpAnyIn_ready (rs := [4]) (by kernel_rfl) (by simp) ?_
        refine AllReadyIn.cons (o := { dst := some 9, op := Op.call { callee := Callee.value (Operand.tmp 5), args := #[Operand.tmp 8], argTypes := #[3] }, type := 4, pos := "merge.go:83", after := #[{ on := 0, ground := Ground.data }, { on := 3, ground := Ground.data }, { on := 3, ground := Ground.chain }], guard := none }) rfl (fun K hK => ?_) AllReadyIn.nil
        (obtain ⟨fn, tmps, assign, body, hy, hRd⟩ := HY.out 2 k (mk (x0, x1)) E U HX.out (HJ.out.bel H1.out HU.out) (HIN.out.more HU.out.size); have HRD := Lib.hid hRd; simp only [I.enc] at hy; clear hRd)
        go_simp
        (refine HRD.out.mono ?_; rintro e W3 ht; obtain ⟨r, rfl, ht⟩ := tell_bool ht; have HT := Lib.hid ht; clear ht)
        refine hK _ _ ?_
        clear hK K
        try simp only [Act.put, List.setIfInBounds_toArray, List.set_cons_zero, List.set_cons_succ]
        refine wpAnyIn_take (i := 5) (oi := { dst := some 4, op := Op.assign (Operand.tmp 9), type := 4, pos := "merge.go:83", after := #[{ on := 4, ground := Ground.data }, { on := 4, ground := Ground.chain }, { on := 0, ground := Ground.phase }, { on := 1, ground := Ground.phase }, { on := 2, ground := Ground.phase }, { on := 3, ground := Ground.phase }, { on := 4, ground := Ground.phase }], guard := none }) (v := ?_) rfl rfl (by kernel_rfl) (by kernel_rfl) (by kernel_rfl) (fun _ _ _ h => h) ⟨Or.inl ⟨by rfl, ?_⟩, fun _ => rfl⟩ ?_
        rotate_left
        · intro w; go_simp; try with_reducible rfl
        try simp only [Act.put, List.setIfInBounds_toArray, List.set_cons_zero, List.set_cons_succ]
        refine wpAnyIn_done (by kernel_rfl) ?_ _
        gi_wp2
        refine bodyPost_ret (v := .bool r) (by simp [results, Try.results50, go_sem]) rfl (ec_fin HU.out h2 (boxed_later H3.out HU.out) H4.out H5.out HT.out)
  · skip
    go_simp
    refine hK _ _ ?_
    clear hK K
    try simp only [Act.put, List.setIfInBounds_toArray, List.set_cons_zero, List.set_cons_succ]
    refine wpAnyIn_ready (rs := [0, 1]) (by kernel_rfl) (by simp) ?_
    refine AllReadyIn.cons (o := { dst := some 5, op := Op.load 66 (Operand.tmp 1), type := 66, pos := "merge.go:83", after := #[], guard := none }) rfl (fun K hK => ?_) (AllReadyIn.cons (o := { dst := some 6, op := Op.load 52 (Operand.tmp 2), type := 52, pos := "merge.go:83", after := #[], guard := none }) rfl (fun K hK => ?_) AllReadyIn.nil)
    · skip
      go_simp
      refine hK _ _ ?_
      clear hK K
      try simp only [Act.put, List.setIfInBounds_toArray, List.set_cons_zero, List.set_cons_succ]
      refine wpAnyIn_ready (rs := [1]) (by kernel_rfl) (by simp) ?_
      refine AllReadyIn.cons (o := { dst := some 6, op := Op.load 52 (Operand.tmp 2), type := 52, pos := "merge.go:83", after := #[], guard := none }) rfl (fun K hK => ?_) AllReadyIn.nil
      go_simp
      refine hK _ _ ?_
      clear hK K
      try simp only [Act.put, List.setIfInBounds_toArray, List.set_cons_zero, List.set_cons_succ]
      refine wpAnyIn_ready (rs := [3]) (by kernel_rfl) (by simp) ?_
      refine AllReadyIn.cons (o := { dst := some 8, op := Op.call { callee := Callee.value (Operand.tmp 6), args := #[Operand.tmp 7], argTypes := #[29] }, type := 3, pos := "merge.go:83", after := #[{ on := 1, ground := Ground.data }, { on := 2, ground := Ground.data }], guard := none }) rfl (fun K hK => ?_) AllReadyIn.nil
      go_simp
      (refine ⟨trivial, ?_⟩; refine (callsIn_wide.2 OK.out).mono ?_; rintro e U ⟨rfl, hb⟩; have HU := Lib.hid (HV.out.trans (hb.mono HV.out.size)); have cyU := bel_later hb cy; clear hb)
      refine hK _ _ ?_
      clear hK K
      try simp only [Act.put, List.setIfInBounds_toArray, List.set_cons_zero, List.set_cons_succ]
      refine wpAnyIn_ready (rs := [4]) (by kernel_rfl) (by simp) ?_
      refine AllReadyIn.cons (o := { dst := some 9, op := Op.call { callee := Callee.value (Operand.tmp 5), args := #[Operand.tmp 8], argTypes := #[3] }, type := 4, pos := "merge.go:83", after := #[{ on := 0, ground := Ground.data }, { on := 3, ground := Ground.data }, { on := 3, ground := Ground.chain }], guard := none }) rfl (fun K hK => ?_) AllReadyIn.nil
      (obtain ⟨fn, tmps, assign, body, hy, hRd⟩ := HY.out 2 k (mk (x0, x1)) E U HX.out (HJ.out.bel H1.out HU.out) (HIN.out.more HU.out.size); have HRD := Lib.hid hRd; simp only [I.enc] at hy; clear hRd)
      go_simp
      (refine HRD.out.mono ?_; rintro e W3 ht; obtain ⟨r, rfl, ht⟩ := tell_bool ht; have HT := Lib.hid ht; clear ht)
      refine hK _ _ ?_
      clear hK K
      try simp only [Act.put, List.setIfInBounds_toArray, List.set_cons_zero, List.set_cons_succ]
      refine wpAnyIn_take (i := 5) (oi := { dst := some 4, op := Op.assign (Operand.tmp 9), type := 4, pos := "merge.go:83", after := #[{ on := 4, ground := Ground.data }, { on := 4, ground := Ground.chain }, { on := 0, ground := Ground.phase }, { on := 1, ground := Ground.phase }, { on := 2, ground := Ground.phase }, { on := 3, ground := Ground.phase }, { on := 4, ground := Ground.phase }], guard := none }) (v := ?_) rfl rfl (by kernel_rfl) (by kernel_rfl) (by kernel_rfl) (fun _ _ _ h => h) ⟨Or.inl ⟨by rfl, ?_⟩, fun _ => rfl⟩ ?_
      rotate_left
      · intro w; go_simp; try with_reducible rfl
      try simp only [Act.put, List.setIfInBounds_toArray, List.set_cons_zero, List.set_cons_succ]
      refine wpAnyIn_done (by kernel_rfl) ?_ _
      gi_wp2
      refine bodyPost_ret (v := .bool r) (by simp [results, Try.results50, go_sem]) rfl (ec_fin HU.out h2 (boxed_later H3.out HU.out) H4.out H5.out HT.out)
    · skip
      go_simp
      refine hK _ _ ?_
      clear hK K
      try simp only [Act.put, List.setIfInBounds_toArray, List.set_cons_zero, List.set_cons_succ]
      refine wpAnyIn_ready (rs := [0, 3]) (by kernel_rfl) (by simp) ?_
      refine AllReadyIn.cons (o := { dst := some 5, op := Op.load 66 (Operand.tmp 1), type := 66, pos := "merge.go:83", after := #[], guard := none }) rfl (fun K hK => ?_) (AllReadyIn.cons (o := { dst := some 8, op := Op.call { callee := Callee.value (Operand.tmp 6), args := #[Operand.tmp 7], argTypes := #[29] }, type := 3, pos := "merge.go:83", after := #[{ on := 1, ground := Ground.data }, { on := 2, ground := Ground.data }], guard := none }) rfl (fun K hK => ?_) AllReadyIn.nil)
      · skip
        go_simp
        refine hK _ _ ?_
        clear hK K
        try simp only [Act.put, List.setIfInBounds_toArray, List.set_cons_zero, List.set_cons_succ]
        refine wpAnyIn_ready (rs := [3]) (by kernel_rfl) (by simp) ?_
        refine AllReadyIn.cons (o := { dst := some 8, op := Op.call { callee := Callee.value (Operand.tmp 6), args := #[Operand.tmp 7], argTypes := #[29] }, type := 3, pos := "merge.go:83", after := #[{ on := 1, ground := Ground.data }, { on := 2, ground := Ground.data }], guard := none }) rfl (fun K hK => ?_) AllReadyIn.nil
        go_simp
        (refine ⟨trivial, ?_⟩; refine (callsIn_wide.2 OK.out).mono ?_; rintro e U ⟨rfl, hb⟩; have HU := Lib.hid (HV.out.trans (hb.mono HV.out.size)); have cyU := bel_later hb cy; clear hb)
        refine hK _ _ ?_
        clear hK K
        try simp only [Act.put, List.setIfInBounds_toArray, List.set_cons_zero, List.set_cons_succ]
        refine wpAnyIn_ready (rs := [4]) (by kernel_rfl) (by simp) ?_
        refine AllReadyIn.cons (o := { dst := some 9, op := Op.call { callee := Callee.value (Operand.tmp 5), args := #[Operand.tmp 8], argTypes := #[3] }, type := 4, pos := "merge.go:83", after := #[{ on := 0, ground := Ground.data }, { on := 3, ground := Ground.data }, { on := 3, ground := Ground.chain }], guard := none }) rfl (fun K hK => ?_) AllReadyIn.nil
        (obtain ⟨fn, tmps, assign, body, hy, hRd⟩ := HY.out 2 k (mk (x0, x1)) E U HX.out (HJ.out.bel H1.out HU.out) (HIN.out.more HU.out.size); have HRD := Lib.hid hRd; simp only [I.enc] at hy; clear hRd)
        go_simp
        (refine HRD.out.mono ?_; rintro e W3 ht; obtain ⟨r, rfl, ht⟩ := tell_bool ht; have HT := Lib.hid ht; clear ht)
        refine hK _ _ ?_
        clear hK K
        try simp only [Act.put, List.setIfInBounds_toArray, List.set_cons_zero, List.set_cons_succ]
        refine wpAnyIn_take (i := 5) (oi := { dst := some 4, op := Op.assign (Operand.tmp 9), type := 4, pos := "merge.go:83", after := #[{ on := 4, ground := Ground.data }, { on := 4, ground := Ground.chain }, { on := 0, ground := Ground.phase }, { on := 1, ground := Ground.phase }, { on := 2, ground := Ground.phase }, { on := 3, ground := Ground.phase }, { on := 4, ground := Ground.phase }], guard := none }) (v := ?_) rfl rfl (by kernel_rfl) (by kernel_rfl) (by kernel_rfl) (fun _ _ _ h => h) ⟨Or.inl ⟨by rfl, ?_⟩, fun _ => rfl⟩ ?_
        rotate_left
        · intro w; go_simp; try with_reducible rfl
        try simp only [Act.put, List.setIfInBounds_toArray, List.set_cons_zero, List.set_cons_succ]
        refine wpAnyIn_done (by kernel_rfl) ?_ _
        gi_wp2
        refine bodyPost_ret (v := .bool r) (by simp [results, Try.results50, go_sem]) rfl (ec_fin HU.out h2 (boxed_later H3.out HU.out) H4.out H5.out HT.out)
      · skip
        go_simp
        (refine ⟨trivial, ?_⟩; refine (callsIn_wide.2 OK.out).mono ?_; rintro e U ⟨rfl, hb⟩; have HU := Lib.hid (HV.out.trans (hb.mono HV.out.size)); have cyU := bel_later hb cy; clear hb)
        refine hK _ _ ?_
        clear hK K
        try simp only [Act.put, List.setIfInBounds_toArray, List.set_cons_zero, List.set_cons_succ]
        refine wpAnyIn_ready (rs := [0]) (by kernel_rfl) (by simp) ?_
        refine AllReadyIn.cons (o := { dst := some 5, op := Op.load 66 (Operand.tmp 1), type := 66, pos := "merge.go:83", after := #[], guard := none }) rfl (fun K hK => ?_) AllReadyIn.nil
        go_simp
        refine hK _ _ ?_
        clear hK K
        try simp only [Act.put, List.setIfInBounds_toArray, List.set_cons_zero, List.set_cons_succ]
        refine wpAnyIn_ready (rs := [4]) (by kernel_rfl) (by simp) ?_
        refine AllReadyIn.cons (o := { dst := some 9, op := Op.call { callee := Callee.value (Operand.tmp 5), args := #[Operand.tmp 8], argTypes := #[3] }, type := 4, pos := "merge.go:83", after := #[{ on := 0, ground := Ground.data }, { on := 3, ground := Ground.data }, { on := 3, ground := Ground.chain }], guard := none }) rfl (fun K hK => ?_) AllReadyIn.nil
        (obtain ⟨fn, tmps, assign, body, hy, hRd⟩ := HY.out 2 k (mk (x0, x1)) E U HX.out (HJ.out.bel H1.out HU.out) (HIN.out.more HU.out.size); have HRD := Lib.hid hRd; simp only [I.enc] at hy; clear hRd)
        go_simp
        (refine HRD.out.mono ?_; rintro e W3 ht; obtain ⟨r, rfl, ht⟩ := tell_bool ht; have HT := Lib.hid ht; clear ht)
        refine hK _ _ ?_
        clear hK K
        try simp only [Act.put, List.setIfInBounds_toArray, List.set_cons_zero, List.set_cons_succ]
        refine wpAnyIn_take (i := 5) (oi := { dst := some 4, op := Op.assign (Operand.tmp 9), type := 4, pos := "merge.go:83", after := #[{ on := 4, ground := Ground.data }, { on := 4, ground := Ground.chain }, { on := 0, ground := Ground.phase }, { on := 1, ground := Ground.phase }, { on := 2, ground := Ground.phase }, { on := 3, ground := Ground.phase }, { on := 4, ground := Ground.phase }], guard := none }) (v := ?_) rfl rfl (by kernel_rfl) (by kernel_rfl) (by kernel_rfl) (fun _ _ _ h => h) ⟨Or.inl ⟨by rfl, ?_⟩, fun _ => rfl⟩ ?_
        rotate_left
        · intro w; go_simp; try with_reducible rfl
        try simp only [Act.put, List.setIfInBounds_toArray, List.set_cons_zero, List.set_cons_succ]
        refine wpAnyIn_done (by kernel_rfl) ?_ _
        gi_wp2
        refine bodyPost_ret (v := .bool r) (by simp [results, Try.results50, go_sem]) rfl (ec_fin HU.out h2 (boxed_later H3.out HU.out) H4.out H5.out HT.out)
set_option maxRecDepth 100000 in
set_option maxHeartbeats 4000000 in
theorem map_seq (bo bs : Nat) {sv : Value} {xs : List TT} {mk : TT → Int} {w0 : World} (hs : IsRow w0 (sv, xs)) {f : FuncId} (ef : ∀ args w, (callFunc f args).run Try.prog w = .ok (.enter f args) w) {cap : Array Value}
    (hf : ∀ (x : TT) (U : World), Below w0.heap.size w0 U → Calls Try.prog f (enc x ++ cap) U fun e w' => e = .returned (.int .i64 (mk x)) ∧ Below U.heap.size U w') (hbo : Boxed w0 bo 52 (.func (.func f) #[] cap)) (hbs : Boxed w0 bs 31 sv) :
    SeqF Try.prog 49 #[.pointer (some ⟨bs, 0, none⟩), .pointer (some ⟨bo, 0, none⟩)] I.enc (xs.map mk) w0 := by
  intro l J Jx W D hb hD hin hJ hJx hY h0
  refine (callsIn_wide (n := 3)).1 ?_
  have c2 := (boxed_later hbs hb).cell
  have l2 := (boxed_later hbs hb).lt
  obtain ⟨V, hVe⟩ : ∃ V, V = W.alloc (.cells #[yv l] 66) := ⟨_, rfl⟩
  have hV : Below W.heap.size W V := by rw [hVe]; exact bel_alloc (Below.refl _ _) _
  have sV : V.heap.size = W.heap.size + 1 := by rw [hVe]; simp
  have bY : Boxed V W.heap.size 66 (yv l) := by rw [hVe]; exact Boxed.new W 66 _
  have hsz := hb.size
  have EA := Lib.hid (each_rowf (h := 50) (cap := #[.pointer (some ⟨W.heap.size, 0, none⟩), .pointer (some ⟨bo, 0, none⟩)]) hs (w := V) (hb.trans (hV.mono hb.size))
    (J := EcJ J w0 l W.heap.size) (Jx := Jx) (ecJ_loc hJ hV.size (by omega) (by omega)) (hJx.more hV.size) (D := D) hD (hin.more hV.size) (enters_of Try.func50 (by kernel_rfl) rfl)
    (fun k x E U hx hE hi => each2_any ef hf hbo hJ hY k x E U hx hE hi)
    ⟨hJ.bel h0 hV, fun h => by have := hin _ h; omega, bY, hb.trans (hV.mono hb.size), hD⟩)
  have EB : Hid (Calls Try.prog 31 #[sv, .func (.func 50) #[] #[.pointer (some ⟨W.heap.size, 0, none⟩), .pointer (some ⟨bo, 0, none⟩)]] V fun e W2 => (∃ v, e = .returned v) ∧ SeqPost (xs.map mk).length J Jx D W W2) := Lib.hid (EA.out.mono (fun e W2 h => by
    obtain ⟨E, hg, hc, h⟩ := h
    have hC : Chg D W W2 := (Chg.of_below hV).trans hc (fun g hg => .inl hg)
    have hG : Gr D E W W2 := fun g hg' => (hg g hg').elim .inl (fun q => .inr ⟨Nat.le_trans hV.size q.1, q.2⟩)
    rcases h with ⟨rfl, h1, h2, h3, h4, h5⟩ | ⟨rfl, k, hk, h⟩
    · exact ⟨⟨_, rfl⟩, E, hG, hC, .inl (by rw [List.length_map]; exact h1)⟩
    · exact ⟨⟨_, rfl⟩, E, hG, hC, .inr ⟨k, by rw [List.length_map]; exact hk, h⟩⟩))
  clear EA hY h0 hs hbo hbs bY sV hV hf
  refine callsIn_of_wp Try.func49 rfl trivial ?_ rfl
  simp only [Try.ntmps49, List.size_toArray, List.length_cons, List.length_nil, Nat.reduceAdd, Nat.reduceSub, Array.replicate_succ, Array.replicate_zero, List.push_toArray, List.append_toArray, List.nil_append, List.cons_append]
  subst hVe
  gi_wp2_with fail
  refine ⟨trivial, (callsIn_wide.2 EB.out).mono ?_⟩
  rintro e W2 ⟨⟨v, rfl⟩, hS⟩
  have HS := Lib.hid hS
  clear hS
  gi_wp2
  go_end0
  exact ⟨⟨_, rfl⟩, HS.out⟩
theorem map_any {sv : Value} {xs : List TT} {mk : TT → Int} {w : World} (hs : IsRow w (sv, xs)) {f : FuncId} (ef : ∀ args w, (callFunc f args).run Try.prog w = .ok (.enter f args) w) {cap : Array Value}
    (hf : ∀ (x : TT) (U : World), Below w.heap.size w U → Calls Try.prog f (enc x ++ cap) U fun e w' => e = .returned (.int .i64 (mk x)) ∧ Below U.heap.size U w') :
    Calls Try.prog 29 #[sv, .func (.func f) #[] cap] w (I.SeqBack Try.prog 49 w (xs.map mk)) := by
  have hV : Below w.heap.size w ((w.alloc (.cells #[sv] 31)).alloc (.cells #[.func (.func f) #[] cap] 52)) := bel_alloc (bel_alloc (Below.refl _ _) _) _
  have S := Lib.hid (map_seq (mk := mk) (w.heap.size + 1) w.heap.size (hs.later hV) ef (fun x U hU => hf x U (hV.trans (hU.mono hV.size))) (by simpa only [World.size_alloc] using Boxed.new (w.alloc (.cells #[sv] 31)) 52 (.func (.func f) #[] cap)) ((Boxed.new w 31 sv).alloc _))
  have HB := Lib.hid hV
  clear hV hf
  rcases hs with ⟨h1, h9⟩ | ⟨g, lb, h1, h9⟩
  all_goals
    clear h9
    simp only at h1
    subst h1
    go_enter Try.func29, Try.ntmps29
    go_wp2
    exact bodyPost_ret (v := .func (.func 49) #[] #[.pointer (some ⟨w.heap.size, 0, none⟩), .pointer (some ⟨w.heap.size + 1, 0, none⟩)]) (by simp [results, Try.results29, go_sem]) rfl ⟨_, rfl, HB.out, S.out⟩
end Go.Proofs.Ytpijaphcknoobaa
