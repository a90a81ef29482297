/- One pair by itself, and then all pairs of a tree: an iterator that ranges over another one. -/
import Derived.Test.YtfgohbhacldlmaaI2
namespace Go.Proofs.Ytfgohbhacldlmaa
set_option linter.unusedSimpArgs false
open Go.RowKit Go.Shelf
set_option linter.unusedVariables false
attribute [local go_sem] Oper.semAt_some

/-- A region without defers is walked in a round as anywhere. -/
theorem anyIn_round {F : Fence} {n : Nat} {P : Program} {md : Region.Mode} {ops : Array Oper} {Q : Exit → Act → World → Prop} {l : Nat} (hd : ∀ o ∈ ops, ∀ c, o.op ≠ .defer c) :
    ∀ {fuel : Nat} {listed : Array Bool} {a : Act} {w : World}, wpAnyIn F n P md ops Q fuel listed a w → wpAnyIn (F.inRound l) n P md ops Q fuel listed a w := by
  intro fuel
  induction fuel with
  | zero => intro listed a w h; exact h
  | succ fuel ih =>
    intro listed a w h
    refine ⟨h.1, fun i hi => ?_⟩
    have h2 := wpOpIn_mono (fun a w => ih (listed := listed.setIfInBounds i true) (a := a) (w := w)) (h.2 i hi)
    unfold wpOpIn at h2 ⊢
    cases ho : ops[i]? with
    | none => rw [ho] at h2; exact h2
    | some o =>
      rw [ho] at h2
      simp only at h2 ⊢
      split
      next hw =>
        rw [if_pos hw] at h2
        refine ⟨h2.1, ?_⟩
        have e1 : o.semAt (F.inRound l).round a.eval = o.semAt F.round a.eval := by
          rw [Oper.semAt_eq _ _ _ (hd o (Array.mem_of_getElem? ho)), Oper.semAt_eq _ _ _ (hd o (Array.mem_of_getElem? ho))]
        have h3 := h2.2
        rw [← e1] at h3
        exact h3
      next hw => rw [if_neg hw] at h2; exact h2
abbrev encP (x : ByteArray × Int) : Array Value := #[.string x.1, .int .i64 x.2]
/-- What lies between two rounds of the loop over the nodes. -/
structure PaI (w0 : World) (X : Nat → Prop) (J : List (ByteArray × Int) → World → Prop) (A : List (ByteArray × Int)) (By : Nat) (l : Nat) (pre : List (NdS w0)) (W : World) : Prop where
  j : J (A ++ prs pre) W
  by_ : Boxed W By 59 (.func (.yield l) #[] #[])
  li : Lies w0 X W
theorem own_more {β : Type} {B B' : Nat} {I : β → World → Prop} (h : OwnFrom B I) (hB : B ≤ B') : OwnFrom B' I := fun s A C row hs hg hr => h s A C row hs hg (fun r e => ⟨Nat.le_trans hB (hr r e).1, (hr r e).2⟩)
theorem lies_own {w0 : World} {X : Nat → Prop} {B : Nat} (hB : w0.heap.size ≤ B) {A C : World} {row : Option Nat} (h : Lies w0 X A) (hg : A.grownBy C row) (hr : ∀ r, row = some r → B ≤ r ∧ ∃ o : Obj, A.heap[r]? = some o ∧ o.isCells = false) : Lies w0 X C :=
  ⟨Nat.le_trans h.1 hg.size, fun k hk hx => (hg.block k (Nat.lt_of_lt_of_le hk h.1) (fun e => by have := (hr k e.symm).1; omega)).trans (h.2 k hk hx)⟩
theorem paI_own {w0 : World} {X : Nat → Prop} {J : List (ByteArray × Int) → World → Prop} {A : List (ByteArray × Int)} {By l B B' : Nat} (hJ : OwnFrom B' J) (hB : B' ≤ B) (h0 : w0.heap.size ≤ B) : OwnFrom B (PaI w0 X J A By l) := by
  intro s Y Z row hs hg hr
  refine ⟨(own_more hJ hB) _ Y Z row hs.j hg hr, ?_, lies_own h0 hs.li hg hr⟩
  exact (Own.from (boxed_own By 59 (fun _ : List (NdS w0) => Value.func (.yield l) #[] #[])) B) s Y Z row hs.by_ hg hr
theorem round_one {m l : Nat} {f : FuncId} {tmps : Array Value} {assign body : Code} {w : World} {A B C : World → Prop}
    (h : RoundIn Fence.wide m Try.prog l f tmps assign body w fun e W' => (e = .returned (.bool true) ∧ A W' ∧ C W') ∨ (e = .returned (.bool false) ∧ B W' ∧ C W')) :
    RoundIn Fence.wide m Try.prog l f tmps assign body w fun e W' => ∃ r, e = .returned (.bool r) ∧ (if r = true then A W' else B W') ∧ C W' :=
  RoundIn.mono h fun e W' h => h.elim (fun ⟨a, b, c⟩ => ⟨true, a, by simpa using b, c⟩) (fun ⟨a, b, c⟩ => ⟨false, a, by simpa using b, c⟩)
theorem KA.boxed {n0 : Nat} {X : Nat → Prop} {W W' : World} {B : Nat} {t : TypeId} {v : Value} (h : KA n0 X W W') (hb : Boxed W B t v) (ht : keptT t = true) (hx : ¬ X B) : Boxed W' B t v := h.2 B _ hb (.inr ht) hx
set_option maxRecDepth 100000 in
set_option maxHeartbeats 4000000 in
theorem pairs1_nil (w0 w : World) (X : Nat → Prop) (hX : ∀ k, X k → k < w0.heap.size ∧ w0.cell? ⟨k, 1, none⟩ = none ∧ w0.cell? ⟨k, 2, none⟩ = none) (B1 B2 : Nat) (hB1 : ¬ X B1) (hB2 : ¬ X B2) (p : Option Addr) (T : Tr ByteArray Int) (hT : IsT w0 p T) (c1 : w0.cell? ⟨B1, 0, none⟩ = some (.pointer none)) (c2 : w0.cell? ⟨B2, 0, none⟩ = some (.pointer p)) (hb0 : Below w0.heap.size w0 w) :
    SeqL Try.prog 49 #[.pointer (some ⟨B1, 0, none⟩), .pointer (some ⟨B2, 0, none⟩)] encP (fun ys => ys = T.inorder) (fun pre => pre <+: T.inorder) T.inorder.length w0.heap.size X w := by
  intro l J Jx W hb hn0l hlW hrl hJ hJx hY h0
  obtain ⟨ns, hns⟩ := hT.nds
  have hWb := Lies.of_below (X := X) (bel_trans hb0 hb)
  have d1 := hWb.cell hB1 c1
  have d2 := hWb.cell hB2 c2
  have HWB := Lib.hid hWb
  have HC := Lib.hid (show w0.cell? ⟨B2, 0, none⟩ = some (.pointer p) from c2)
  have hsz := hWb.1
  clear c1 c2 hT hWb
  refine (callsIn_wide (n := 4)).1 ?_
  refine callsIn_of_wp_marks Try.func49 rfl trivial ?_ rfl
  simp only [Try.ntmps49, List.size_toArray, List.length_cons, List.length_nil, Nat.reduceAdd, Nat.reduceSub, Array.replicate_succ, Array.replicate_zero, List.push_toArray, List.append_toArray, List.nil_append, List.cons_append]
  gi_wp2_with fail
  have e1 : (W.alloc (.cells #[.func (.yield l) #[] #[]] 59)).cell? ⟨B1, 0, none⟩ = some (.pointer none) := bel_later (bel_alloc (Below.refl _ _) _) d1
  have e2 : (W.alloc (.cells #[.func (.yield l) #[] #[]] 59)).cell? ⟨B2, 0, none⟩ = some (.pointer p) := bel_later (bel_alloc (Below.refl _ _) _) d2
  have hBy := Lib.hid (Boxed.new W 59 (.func (.yield l) #[] #[]))
  have HB1 := Lib.hid (show Below W.heap.size W (W.alloc (.cells #[.func (.yield l) #[] #[]] 59)) from bel_alloc (Below.refl _ _) _)
  refine wpIn_wide.2 ?_
  go_quiet (fail)
  have hVb := bel_trans HB1.out (bel_drewN (Below.refl _ _) nq : Below (W.alloc (.cells #[.func (.yield l) #[] #[]] 59)).heap.size (W.alloc (.cells #[.func (.yield l) #[] #[]] 59)) ((W.alloc (.cells #[.func (.yield l) #[] #[]] 59)).drewN nq))
  have hVy : Boxed ((W.alloc (.cells #[.func (.yield l) #[] #[]] 59)).drewN nq) W.heap.size 59 (.func (.yield l) #[] #[]) := boxed_later hBy.out (bel_drewN (Below.refl _ _) nq)
  generalize ((W.alloc (.cells #[.func (.yield l) #[] #[]] 59)).drewN nq) = V at *
  have hJV : J [] V := hJ _ _ _ none h0 (bel_grown hVb none) (fun r e => by cases e)
  have hLV := HWB.out.below hVb
  clear e1 e2
  have f2 := hLV.cell hB2 HC.out
  have NC := Lib.hid (nodes_any p V)
  clear d1 d2
  gi_wp2_with (refine ⟨trivial, ?_⟩; gi_at_call 50; refine (callsIn_wide.2 NC.out).mono ?_; rintro e w' ⟨rfl, rfl⟩)
  have hb3 : Below V.heap.size V (V.alloc (.cells #[.pointer p] 63)) := bel_alloc (Below.refl _ _) _
  have hc3 : (V.alloc (.cells #[.pointer p] 63)).cell? ⟨V.heap.size, 0, none⟩ = some (.pointer p) := by simp [go_sem]
  have hs3 : (V.alloc (.cells #[.pointer p] 63)).heap.size = V.heap.size + 1 := by simp
  have hsV := hVb.size
  have hJ3 := hJ _ _ _ none hJV (bel_grown hb3 none) (fun r e => by cases e)
  have hL3 := hLV.below hb3
  have hy3 := boxed_later hVy hb3
  refine range_L (w0 := V.alloc (.cells #[.pointer p] 63)) (gf := 61) (lb := #[.pointer (some ⟨V.heap.size, 0, none⟩)]) rfl (enters_of Try.func61 (by kernel_rfl) rfl)
    (nodes1_stops w0 (V.alloc (.cells #[.pointer p] 63)) X (andl X l) (fun k hk h => h.elim id (fun e => by omega)) (fun k h => (hX k h).2.2) V.heap.size p T ns hns hL3 hc3) (by omega) (fun k h => h.elim (fun h => by have := (hX k h).1; omega) (fun e => by omega)) (Below.refl _ _) (fun _ => rfl)
    (PaI w0 X J [] W.heap.size l) (fun c pre W' => c = .ret ∧ Jx ([] ++ prs pre) W') (paI_own hJ (by omega) (by omega)) (fun c s Y Z row hs hg hr => ⟨hs.1, (own_more hJx (by omega)) _ Y Z row hs.2 hg hr⟩) ⟨by simpa using hJ3, hy3, hL3⟩
    (fun x => { tmps := #[.func (.yield l) #[] #[], .pointer (some ⟨B1, 0, none⟩), .pointer (some ⟨B2, 0, none⟩), .pointer (some ⟨W.heap.size, 0, none⟩), .pointer (some ⟨x.1.1, 0, none⟩), .pointer none, .bool false, .bool false, undef, undef, undef, undef, undef, undef, undef, undef, undef, undef, undef, .bool false, .pointer p, .func (.func 61) #[] #[.pointer (some ⟨V.heap.size, 0, none⟩)], .pointer (some ⟨x.1.1, 0, none⟩), undef, undef, undef, undef, undef, undef, undef, undef, undef, undef, undef], defers := [] }) ?assign ?body ?done ?stop
  case assign =>
    intro m l2 x W2 K hK
    gi_wp2
    exact hK
  case body =>
    rintro m l2 pre x W2 hl2 hI hlen
    obtain ⟨⟨b, k, v⟩, hat⟩ := x
    have hxb : ¬ X b := fun h => hat.2.2 (hX b h).2.2
    have cy := hI.by_.cell
    have n0 := hI.li.cell hxb hat.1
    have n1 := hI.li.cell hxb hat.2.1
    have hdr : Below W2.heap.size W2 W2.drew := bel_dw (Below.refl _ _)
    have hJd := hJ _ _ _ none hI.j (bel_grown hdr none) (fun r e => by cases e)
    have hmix : Try.prog.follows .mixedOrders = true := by kernel_rfl
    have HI := Lib.hid hI
    obtain ⟨fn, tmps, assign, body, hy, hR⟩ := hY (m - 1) _ (k, v) W2.drew hJd (by have h := congrArg List.length hns.pairs; simp only [prs, List.length_map] at h ⊢; simpa using (h ▸ hlen))
    have hR2 := round_one hR
    simp only [encP] at hy
    have hd2 : Hid (Fence.wide.depth.isSome = true → 1 ≤ m) := Lib.hid (fun h => by cases h)
    have hByX : ¬ andl X l W.heap.size := fun h => h.elim (fun h => by have := (hX _ h).1; omega) (fun e => by omega)
    have hks : ∀ W3, KA w0.heap.size (andl X l) W2.drew W3 → KA w0.heap.size (andl X l) W2 W3 := fun W3 h => (KA.of_below hdr).trans h
    have FIN : Hid (∀ W3, KA w0.heap.size (andl X l) W2.drew W3 → J ([] ++ prs pre ++ [(k, v)]) W3 → KA w0.heap.size (andl X l) W2 W3 ∧ PaI w0 X J [] W.heap.size l (pre ++ [⟨(b, k, v), hat⟩]) W3) := Lib.hid (fun W3 h hj =>
      ⟨hks W3 h, by simpa [prs, List.append_assoc] using hj, (hks W3 h).boxed hI.by_ (by decide) hByX, hI.li.ka (hks W3 h) (fun k' hk' h' => h'.elim id (fun e => by omega))⟩)
    have FIN2 : Hid (∀ W3, KA w0.heap.size (andl X l) W2.drew W3 → Jx ([] ++ prs pre ++ [(k, v)]) W3 → KA w0.heap.size (andl X l) W2 W3 ∧ Code.ret = Code.ret ∧ Jx ([] ++ prs (pre ++ [⟨(b, k, v), hat⟩])) W3) := Lib.hid (fun W3 h hj =>
      ⟨hks W3 h, rfl, by simpa [prs, List.append_assoc] using hj⟩)
    clear hks hByX hJd hR hI hY hJ hJx h0 hJV hJ3 hVy hy3 hL3 hLV hlen hdr hxb
    try clear hns HWB HC hBy HB1 hVb f2 NC hb3 hc3 hs3 hsV hb hn0l hlW hrl hb0
    gi_wp2_with fail
    refine wpIn_region_any hmix ?_
    change wpAnyIn _ _ _ _ _ _ _ _ _ (World.drew _)
    refine anyIn_round (fun o ho c => ?_) ?_
    · simp at ho; rcases ho with rfl | rfl | rfl | rfl | rfl | rfl | rfl | rfl | rfl | rfl | rfl <;> simp
    refine wpAnyIn_take (i := 1) (oi := { dst := some 24, op := Op.move (Operand.tmp 4), type := 63, pos := "order.go:150", after := #[], guard := none }) (v := ?_) rfl rfl (by kernel_rfl) (by kernel_rfl) (by kernel_rfl) (fun _ _ _ h => h) ⟨Or.inl ⟨by rfl, ?_⟩, fun _ => rfl⟩ ?_
    rotate_left
    · intro w; go_simp; try with_reducible rfl
    try simp only [Act.put, List.setIfInBounds_toArray, List.set_cons_zero, List.set_cons_succ]
    refine wpAnyIn_take (i := 2) (oi := { dst := some 25, op := Op.nilCheck (Operand.tmp 24), type := 0, pos := "order.go:150", after := #[{ on := 1, ground := Ground.data }], guard := none }) (v := ?_) rfl rfl (by kernel_rfl) (by kernel_rfl) (by kernel_rfl) (fun _ _ _ h => h) ⟨Or.inl ⟨by rfl, ?_⟩, fun _ => rfl⟩ ?_
    rotate_left
    · intro w; go_simp; try with_reducible rfl
    try simp only [Act.put, List.setIfInBounds_toArray, List.set_cons_zero, List.set_cons_succ]
    refine wpAnyIn_take (i := 3) (oi := { dst := some 26, op := Op.fieldAddr 73 (Operand.tmp 25) 0, type := 0, pos := "order.go:150", after := #[{ on := 2, ground := Ground.data }], guard := none }) (v := ?_) rfl rfl (by kernel_rfl) (by kernel_rfl) (by kernel_rfl) (fun _ _ _ h => h) ⟨Or.inl ⟨by rfl, ?_⟩, fun _ => rfl⟩ ?_
    rotate_left
    · intro w; go_simp; try with_reducible rfl
    try simp only [Act.put, List.setIfInBounds_toArray, List.set_cons_zero, List.set_cons_succ]
    refine wpAnyIn_take (i := 5) (oi := { dst := some 28, op := Op.move (Operand.tmp 4), type := 63, pos := "order.go:150", after := #[], guard := none }) (v := ?_) rfl rfl (by kernel_rfl) (by kernel_rfl) (by kernel_rfl) (fun _ _ _ h => h) ⟨Or.inl ⟨by rfl, ?_⟩, fun _ => rfl⟩ ?_
    rotate_left
    · intro w; go_simp; try with_reducible rfl
    try simp only [Act.put, List.setIfInBounds_toArray, List.set_cons_zero, List.set_cons_succ]
    refine wpAnyIn_take (i := 6) (oi := { dst := some 29, op := Op.nilCheck (Operand.tmp 28), type := 0, pos := "order.go:150", after := #[{ on := 5, ground := Ground.data }], guard := none }) (v := ?_) rfl rfl (by kernel_rfl) (by kernel_rfl) (by kernel_rfl) (fun _ _ _ h => h) ⟨Or.inl ⟨by rfl, ?_⟩, fun _ => rfl⟩ ?_
    rotate_left
    · intro w; go_simp; try with_reducible rfl
    try simp only [Act.put, List.setIfInBounds_toArray, List.set_cons_zero, List.set_cons_succ]
    refine wpAnyIn_take (i := 7) (oi := { dst := some 30, op := Op.fieldAddr 73 (Operand.tmp 29) 1, type := 0, pos := "order.go:150", after := #[{ on := 6, ground := Ground.data }], guard := none }) (v := ?_) rfl rfl (by kernel_rfl) (by kernel_rfl) (by kernel_rfl) (fun _ _ _ h => h) ⟨Or.inl ⟨by rfl, ?_⟩, fun _ => rfl⟩ ?_
    rotate_left
    · intro w; go_simp; try with_reducible rfl
    try simp only [Act.put, List.setIfInBounds_toArray, List.set_cons_zero, List.set_cons_succ]
    refine wpAnyIn_ready (rs := [0, 4, 8]) (by kernel_rfl) (by simp) ?_
    refine AllReadyIn.cons (o := { dst := some 23, op := Op.load 59 (Operand.tmp 3), type := 59, pos := "order.go:150", after := #[], guard := none }) rfl (fun K hK => ?_) (AllReadyIn.cons (o := { dst := some 27, op := Op.load 9 (Operand.tmp 26), type := 9, pos := "order.go:150", after := #[{ on := 3, ground := Ground.data }], guard := none }) rfl (fun K hK => ?_) (AllReadyIn.cons (o := { dst := some 31, op := Op.load 3 (Operand.tmp 30), type := 3, pos := "order.go:150", after := #[{ on := 7, ground := Ground.data }], guard := none }) rfl (fun K hK => ?_) AllReadyIn.nil))
    · skip
      go_simp
      refine hK _ _ ?_
      clear hK K
      try simp only [Act.put, List.setIfInBounds_toArray, List.set_cons_zero, List.set_cons_succ]
      refine wpAnyIn_ready (rs := [4, 8]) (by kernel_rfl) (by simp) ?_
      refine AllReadyIn.cons (o := { dst := some 27, op := Op.load 9 (Operand.tmp 26), type := 9, pos := "order.go:150", after := #[{ on := 3, ground := Ground.data }], guard := none }) rfl (fun K hK => ?_) (AllReadyIn.cons (o := { dst := some 31, op := Op.load 3 (Operand.tmp 30), type := 3, pos := "order.go:150", after := #[{ on := 7, ground := Ground.data }], guard := none }) rfl (fun K hK => ?_) AllReadyIn.nil)
      · skip
        go_simp
        refine hK _ _ ?_
        clear hK K
        try simp only [Act.put, List.setIfInBounds_toArray, List.set_cons_zero, List.set_cons_succ]
        refine wpAnyIn_ready (rs := [8]) (by kernel_rfl) (by simp) ?_
        refine AllReadyIn.cons (o := { dst := some 31, op := Op.load 3 (Operand.tmp 30), type := 3, pos := "order.go:150", after := #[{ on := 7, ground := Ground.data }], guard := none }) rfl (fun K hK => ?_) AllReadyIn.nil
        go_simp
        refine hK _ _ ?_
        clear hK K
        try simp only [Act.put, List.setIfInBounds_toArray, List.set_cons_zero, List.set_cons_succ]
        refine wpAnyIn_ready (rs := [9]) (by kernel_rfl) (by simp) ?_
        refine AllReadyIn.cons (o := { dst := some 32, op := Op.call { callee := Callee.value (Operand.tmp 23), args := #[Operand.tmp 27, Operand.tmp 31], argTypes := #[9, 3] }, type := 4, pos := "order.go:150", after := #[{ on := 0, ground := Ground.data }, { on := 4, ground := Ground.data }, { on := 8, ground := Ground.data }], guard := none }) rfl (fun K hK => ?_) AllReadyIn.nil
        go_simp
        (with_reducible refine ⟨hd2.out, ?_⟩; with_reducible refine hR2.mono ?_; clear hR2; rintro e W3 ⟨r, rfl, hr3, hk3⟩)
        refine hK _ _ ?_
        clear hK K
        try simp only [Act.put, List.setIfInBounds_toArray, List.set_cons_zero, List.set_cons_succ]
        refine wpAnyIn_take (i := 10) (oi := { dst := some 33, op := Op.unOp UnOp.not 4 (Operand.tmp 32), type := 4, pos := "order.go:150", after := #[{ on := 9, ground := Ground.data }], guard := none }) (v := ?_) rfl rfl (by kernel_rfl) (by kernel_rfl) (by kernel_rfl) (fun _ _ _ h => h) ⟨Or.inl ⟨by rfl, ?_⟩, fun _ => rfl⟩ ?_
        rotate_left
        · intro w; go_simp; try with_reducible rfl
        try simp only [Act.put, List.setIfInBounds_toArray, List.set_cons_zero, List.set_cons_succ]
        refine wpAnyIn_done (by kernel_rfl) ?_ _
        cases r
        · simp only [Bool.not_false]
          gi_wp2
          exact ⟨(FIN2.out _ hk3 (by simpa using hr3)).1, rfl, (FIN2.out _ hk3 (by simpa using hr3)).2.2⟩
        · simp only [Bool.not_true]
          gi_wp2
          exact FIN.out _ hk3 (by simpa using hr3)
      · skip
        go_simp
        refine hK _ _ ?_
        clear hK K
        try simp only [Act.put, List.setIfInBounds_toArray, List.set_cons_zero, List.set_cons_succ]
        refine wpAnyIn_ready (rs := [4]) (by kernel_rfl) (by simp) ?_
        refine AllReadyIn.cons (o := { dst := some 27, op := Op.load 9 (Operand.tmp 26), type := 9, pos := "order.go:150", after := #[{ on := 3, ground := Ground.data }], guard := none }) rfl (fun K hK => ?_) AllReadyIn.nil
        go_simp
        refine hK _ _ ?_
        clear hK K
        try simp only [Act.put, List.setIfInBounds_toArray, List.set_cons_zero, List.set_cons_succ]
        refine wpAnyIn_ready (rs := [9]) (by kernel_rfl) (by simp) ?_
        refine AllReadyIn.cons (o := { dst := some 32, op := Op.call { callee := Callee.value (Operand.tmp 23), args := #[Operand.tmp 27, Operand.tmp 31], argTypes := #[9, 3] }, type := 4, pos := "order.go:150", after := #[{ on := 0, ground := Ground.data }, { on := 4, ground := Ground.data }, { on := 8, ground := Ground.data }], guard := none }) rfl (fun K hK => ?_) AllReadyIn.nil
        go_simp
        (with_reducible refine ⟨hd2.out, ?_⟩; with_reducible refine hR2.mono ?_; clear hR2; rintro e W3 ⟨r, rfl, hr3, hk3⟩)
        refine hK _ _ ?_
        clear hK K
        try simp only [Act.put, List.setIfInBounds_toArray, List.set_cons_zero, List.set_cons_succ]
        refine wpAnyIn_take (i := 10) (oi := { dst := some 33, op := Op.unOp UnOp.not 4 (Operand.tmp 32), type := 4, pos := "order.go:150", after := #[{ on := 9, ground := Ground.data }], guard := none }) (v := ?_) rfl rfl (by kernel_rfl) (by kernel_rfl) (by kernel_rfl) (fun _ _ _ h => h) ⟨Or.inl ⟨by rfl, ?_⟩, fun _ => rfl⟩ ?_
        rotate_left
        · intro w; go_simp; try with_reducible rfl
        try simp only [Act.put, List.setIfInBounds_toArray, List.set_cons_zero, List.set_cons_succ]
        refine wpAnyIn_done (by kernel_rfl) ?_ _
        cases r
        · simp only [Bool.not_false]
          gi_wp2
          exact ⟨(FIN2.out _ hk3 (by simpa using hr3)).1, rfl, (FIN2.out _ hk3 (by simpa using hr3)).2.2⟩
        · simp only [Bool.not_true]
          gi_wp2
          exact FIN.out _ hk3 (by simpa using hr3)
    · skip
      go_simp
      refine hK _ _ ?_
      clear hK K
      try simp only [Act.put, List.setIfInBounds_toArray, List.set_cons_zero, List.set_cons_succ]
      refine wpAnyIn_ready (rs := [0, 8]) (by kernel_rfl) (by simp) ?_
      refine AllReadyIn.cons (o := { dst := some 23, op := Op.load 59 (Operand.tmp 3), type := 59, pos := "order.go:150", after := #[], guard := none }) rfl (fun K hK => ?_) (AllReadyIn.cons (o := { dst := some 31, op := Op.load 3 (Operand.tmp 30), type := 3, pos := "order.go:150", after := #[{ on := 7, ground := Ground.data }], guard := none }) rfl (fun K hK => ?_) AllReadyIn.nil)
      · skip
        go_simp
        refine hK _ _ ?_
        clear hK K
        try simp only [Act.put, List.setIfInBounds_toArray, List.set_cons_zero, List.set_cons_succ]
        refine wpAnyIn_ready (rs := [8]) (by kernel_rfl) (by simp) ?_
        refine AllReadyIn.cons (o := { dst := some 31, op := Op.load 3 (Operand.tmp 30), type := 3, pos := "order.go:150", after := #[{ on := 7, ground := Ground.data }], guard := none }) rfl (fun K hK => ?_) AllReadyIn.nil
        go_simp
        refine hK _ _ ?_
        clear hK K
        try simp only [Act.put, List.setIfInBounds_toArray, List.set_cons_zero, List.set_cons_succ]
        refine wpAnyIn_ready (rs := [9]) (by kernel_rfl) (by simp) ?_
        refine AllReadyIn.cons (o := { dst := some 32, op := Op.call { callee := Callee.value (Operand.tmp 23), args := #[Operand.tmp 27, Operand.tmp 31], argTypes := #[9, 3] }, type := 4, pos := "order.go:150", after := #[{ on := 0, ground := Ground.data }, { on := 4, ground := Ground.data }, { on := 8, ground := Ground.data }], guard := none }) rfl (fun K hK => ?_) AllReadyIn.nil
        go_simp
        (with_reducible refine ⟨hd2.out, ?_⟩; with_reducible refine hR2.mono ?_; clear hR2; rintro e W3 ⟨r, rfl, hr3, hk3⟩)
        refine hK _ _ ?_
        clear hK K
        try simp only [Act.put, List.setIfInBounds_toArray, List.set_cons_zero, List.set_cons_succ]
        refine wpAnyIn_take (i := 10) (oi := { dst := some 33, op := Op.unOp UnOp.not 4 (Operand.tmp 32), type := 4, pos := "order.go:150", after := #[{ on := 9, ground := Ground.data }], guard := none }) (v := ?_) rfl rfl (by kernel_rfl) (by kernel_rfl) (by kernel_rfl) (fun _ _ _ h => h) ⟨Or.inl ⟨by rfl, ?_⟩, fun _ => rfl⟩ ?_
        rotate_left
        · intro w; go_simp; try with_reducible rfl
        try simp only [Act.put, List.setIfInBounds_toArray, List.set_cons_zero, List.set_cons_succ]
        refine wpAnyIn_done (by kernel_rfl) ?_ _
        cases r
        · simp only [Bool.not_false]
          gi_wp2
          exact ⟨(FIN2.out _ hk3 (by simpa using hr3)).1, rfl, (FIN2.out _ hk3 (by simpa using hr3)).2.2⟩
        · simp only [Bool.not_true]
          gi_wp2
          exact FIN.out _ hk3 (by simpa using hr3)
      · skip
        go_simp
        refine hK _ _ ?_
        clear hK K
        try simp only [Act.put, List.setIfInBounds_toArray, List.set_cons_zero, List.set_cons_succ]
        refine wpAnyIn_ready (rs := [0]) (by kernel_rfl) (by simp) ?_
        refine AllReadyIn.cons (o := { dst := some 23, op := Op.load 59 (Operand.tmp 3), type := 59, pos := "order.go:150", after := #[], guard := none }) rfl (fun K hK => ?_) AllReadyIn.nil
        go_simp
        refine hK _ _ ?_
        clear hK K
        try simp only [Act.put, List.setIfInBounds_toArray, List.set_cons_zero, List.set_cons_succ]
        refine wpAnyIn_ready (rs := [9]) (by kernel_rfl) (by simp) ?_
        refine AllReadyIn.cons (o := { dst := some 32, op := Op.call { callee := Callee.value (Operand.tmp 23), args := #[Operand.tmp 27, Operand.tmp 31], argTypes := #[9, 3] }, type := 4, pos := "order.go:150", after := #[{ on := 0, ground := Ground.data }, { on := 4, ground := Ground.data }, { on := 8, ground := Ground.data }], guard := none }) rfl (fun K hK => ?_) AllReadyIn.nil
        go_simp
        (with_reducible refine ⟨hd2.out, ?_⟩; with_reducible refine hR2.mono ?_; clear hR2; rintro e W3 ⟨r, rfl, hr3, hk3⟩)
        refine hK _ _ ?_
        clear hK K
        try simp only [Act.put, List.setIfInBounds_toArray, List.set_cons_zero, List.set_cons_succ]
        refine wpAnyIn_take (i := 10) (oi := { dst := some 33, op := Op.unOp UnOp.not 4 (Operand.tmp 32), type := 4, pos := "order.go:150", after := #[{ on := 9, ground := Ground.data }], guard := none }) (v := ?_) rfl rfl (by kernel_rfl) (by kernel_rfl) (by kernel_rfl) (fun _ _ _ h => h) ⟨Or.inl ⟨by rfl, ?_⟩, fun _ => rfl⟩ ?_
        rotate_left
        · intro w; go_simp; try with_reducible rfl
        try simp only [Act.put, List.setIfInBounds_toArray, List.set_cons_zero, List.set_cons_succ]
        refine wpAnyIn_done (by kernel_rfl) ?_ _
        cases r
        · simp only [Bool.not_false]
          gi_wp2
          exact ⟨(FIN2.out _ hk3 (by simpa using hr3)).1, rfl, (FIN2.out _ hk3 (by simpa using hr3)).2.2⟩
        · simp only [Bool.not_true]
          gi_wp2
          exact FIN.out _ hk3 (by simpa using hr3)
    · skip
      go_simp
      refine hK _ _ ?_
      clear hK K
      try simp only [Act.put, List.setIfInBounds_toArray, List.set_cons_zero, List.set_cons_succ]
      refine wpAnyIn_ready (rs := [0, 4]) (by kernel_rfl) (by simp) ?_
      refine AllReadyIn.cons (o := { dst := some 23, op := Op.load 59 (Operand.tmp 3), type := 59, pos := "order.go:150", after := #[], guard := none }) rfl (fun K hK => ?_) (AllReadyIn.cons (o := { dst := some 27, op := Op.load 9 (Operand.tmp 26), type := 9, pos := "order.go:150", after := #[{ on := 3, ground := Ground.data }], guard := none }) rfl (fun K hK => ?_) AllReadyIn.nil)
      · skip
        go_simp
        refine hK _ _ ?_
        clear hK K
        try simp only [Act.put, List.setIfInBounds_toArray, List.set_cons_zero, List.set_cons_succ]
        refine wpAnyIn_ready (rs := [4]) (by kernel_rfl) (by simp) ?_
        refine AllReadyIn.cons (o := { dst := some 27, op := Op.load 9 (Operand.tmp 26), type := 9, pos := "order.go:150", after := #[{ on := 3, ground := Ground.data }], guard := none }) rfl (fun K hK => ?_) AllReadyIn.nil
        go_simp
        refine hK _ _ ?_
        clear hK K
        try simp only [Act.put, List.setIfInBounds_toArray, List.set_cons_zero, List.set_cons_succ]
        refine wpAnyIn_ready (rs := [9]) (by kernel_rfl) (by simp) ?_
        refine AllReadyIn.cons (o := { dst := some 32, op := Op.call { callee := Callee.value (Operand.tmp 23), args := #[Operand.tmp 27, Operand.tmp 31], argTypes := #[9, 3] }, type := 4, pos := "order.go:150", after := #[{ on := 0, ground := Ground.data }, { on := 4, ground := Ground.data }, { on := 8, ground := Ground.data }], guard := none }) rfl (fun K hK => ?_) AllReadyIn.nil
        go_simp
        (with_reducible refine ⟨hd2.out, ?_⟩; with_reducible refine hR2.mono ?_; clear hR2; rintro e W3 ⟨r, rfl, hr3, hk3⟩)
        refine hK _ _ ?_
        clear hK K
        try simp only [Act.put, List.setIfInBounds_toArray, List.set_cons_zero, List.set_cons_succ]
        refine wpAnyIn_take (i := 10) (oi := { dst := some 33, op := Op.unOp UnOp.not 4 (Operand.tmp 32), type := 4, pos := "order.go:150", after := #[{ on := 9, ground := Ground.data }], guard := none }) (v := ?_) rfl rfl (by kernel_rfl) (by kernel_rfl) (by kernel_rfl) (fun _ _ _ h => h) ⟨Or.inl ⟨by rfl, ?_⟩, fun _ => rfl⟩ ?_
        rotate_left
        · intro w; go_simp; try with_reducible rfl
        try simp only [Act.put, List.setIfInBounds_toArray, List.set_cons_zero, List.set_cons_succ]
        refine wpAnyIn_done (by kernel_rfl) ?_ _
        cases r
        · simp only [Bool.not_false]
          gi_wp2
          exact ⟨(FIN2.out _ hk3 (by simpa using hr3)).1, rfl, (FIN2.out _ hk3 (by simpa using hr3)).2.2⟩
        · simp only [Bool.not_true]
          gi_wp2
          exact FIN.out _ hk3 (by simpa using hr3)
      · skip
        go_simp
        refine hK _ _ ?_
        clear hK K
        try simp only [Act.put, List.setIfInBounds_toArray, List.set_cons_zero, List.set_cons_succ]
        refine wpAnyIn_ready (rs := [0]) (by kernel_rfl) (by simp) ?_
        refine AllReadyIn.cons (o := { dst := some 23, op := Op.load 59 (Operand.tmp 3), type := 59, pos := "order.go:150", after := #[], guard := none }) rfl (fun K hK => ?_) AllReadyIn.nil
        go_simp
        refine hK _ _ ?_
        clear hK K
        try simp only [Act.put, List.setIfInBounds_toArray, List.set_cons_zero, List.set_cons_succ]
        refine wpAnyIn_ready (rs := [9]) (by kernel_rfl) (by simp) ?_
        refine AllReadyIn.cons (o := { dst := some 32, op := Op.call { callee := Callee.value (Operand.tmp 23), args := #[Operand.tmp 27, Operand.tmp 31], argTypes := #[9, 3] }, type := 4, pos := "order.go:150", after := #[{ on := 0, ground := Ground.data }, { on := 4, ground := Ground.data }, { on := 8, ground := Ground.data }], guard := none }) rfl (fun K hK => ?_) AllReadyIn.nil
        go_simp
        (with_reducible refine ⟨hd2.out, ?_⟩; with_reducible refine hR2.mono ?_; clear hR2; rintro e W3 ⟨r, rfl, hr3, hk3⟩)
        refine hK _ _ ?_
        clear hK K
        try simp only [Act.put, List.setIfInBounds_toArray, List.set_cons_zero, List.set_cons_succ]
        refine wpAnyIn_take (i := 10) (oi := { dst := some 33, op := Op.unOp UnOp.not 4 (Operand.tmp 32), type := 4, pos := "order.go:150", after := #[{ on := 9, ground := Ground.data }], guard := none }) (v := ?_) rfl rfl (by kernel_rfl) (by kernel_rfl) (by kernel_rfl) (fun _ _ _ h => h) ⟨Or.inl ⟨by rfl, ?_⟩, fun _ => rfl⟩ ?_
        rotate_left
        · intro w; go_simp; try with_reducible rfl
        try simp only [Act.put, List.setIfInBounds_toArray, List.set_cons_zero, List.set_cons_succ]
        refine wpAnyIn_done (by kernel_rfl) ?_ _
        cases r
        · simp only [Bool.not_false]
          gi_wp2
          exact ⟨(FIN2.out _ hk3 (by simpa using hr3)).1, rfl, (FIN2.out _ hk3 (by simpa using hr3)).2.2⟩
        · simp only [Bool.not_true]
          gi_wp2
          exact FIN.out _ hk3 (by simpa using hr3)
  case done =>
    rintro D ys W2 hD rfl hI hK
    gi_wp2
    refine ⟨by simp, .inl ⟨_, _, rfl, run_takeDeferred hK, ?_⟩⟩
    exact ⟨_, results_none rfl _ _ _, ⟨_, rfl⟩, .inl ⟨_, rfl, hJ _ _ _ _ (by have h := hI.j; rw [hns.pairs] at h; exact h) (grownBy_putObj' W2 D (.deferred none)) (fun r e => by cases e; exact ⟨by omega, _, hK, rfl⟩)⟩⟩
  case stop =>
    rintro D c pre W2 hD hp ⟨rfl, hJ2⟩ hK
    gi_wp2
    refine ⟨by simp, .inl ⟨_, _, rfl, run_takeDeferred hK, ?_⟩⟩
    exact ⟨_, results_none rfl _ _ _, ⟨_, rfl⟩, .inr ⟨_, by rw [← hns.pairs]; exact (hp.map _), hJx _ _ _ _ hJ2 (grownBy_putObj' W2 D (.deferred none)) (fun r e => by cases e; exact ⟨by omega, _, hK, rfl⟩)⟩⟩
end Go.Proofs.Ytfgohbhacldlmaa
