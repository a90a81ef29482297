/- Print of moves. -/
import Derived.Test.YtocbabckihcdmaaDoorT4
import Derived.Test.YtocbabckihcdmaaDoorL2
import Derived.Lib.ItoaLen
namespace Go.Proofs.YtocbabckihcdmaaDoor
set_option linter.unusedSimpArgs false
open Go.RowKit Go.Maps
set_option linter.unusedVariables false
theorem at_k {K : Act → World → Prop} {a : Act} {W : World} (h : ∀ W2, W2 = W → K a W2) : K a W := h W rfl
theorem at_exit {f : Exit → Act → World → Prop} {e : Exit} {a : Act} {W : World} (h : ∀ W2, W2 = W → f e a W2) : f e a W := h W rfl
structure SK (W : World) (Q : List (Nat × Obj)) (V : World) : Prop where
  b : Below W.heap.size W V
  q : ∀ p ∈ Q, V.heap[p.1]? = some p.2
theorem SK.g {W V : World} {Q : List (Nat × Obj)} (h : SK W Q V) (i : Nat) {g : Nat} {o : Obj} (hx : Q[i]? = some (g, o)) : V.heap[g]? = some o := h.q (g, o) (List.mem_of_getElem? hx)
theorem SK.later {W V V2 : World} {Q : List (Nat × Obj)} (h : SK W Q V) (b : Below V.heap.size V V2) : SK W Q V2 := ⟨bel_trans h.b b, fun p hp => keep_bel b (h.q p hp)⟩
theorem SK.start {W : World} {Q : List (Nat × Obj)} (h : ∀ p ∈ Q, W.heap[p.1]? = some p.2) : SK W Q W.drew := ⟨(Below.refl _ _).drew, fun p hp => h p hp⟩
theorem itoa_any (n : Int) (h0 : -9223372036854775808 ≤ n) (h1 : n ≤ 9223372036854775807) (w : World) (h : GW w) :
    Calls Tryd.prog 21 #[.int .i64 n] w fun e w' => e = .returned (.string ⟨(Lib.itoa n).toArray⟩) ∧ Below w.heap.size w w' :=
  (sh_strconv_Itoa n h0 h1 w h.tb).mono fun e w' ⟨h1, k, os, h2⟩ => ⟨h1, by rw [h2]; exact Lib.below_grow _ w (Nat.le_refl _) k os⟩
/-- A move whose numbers are numbers. -/
structure MOk (x : MV) : Prop where
  w0 : 0 ≤ x.w
  w1 : x.w ≤ 255
  s0 : -9223372036854775808 ≤ x.s ∧ x.s ≤ 9223372036854775807
  n0 : -9223372036854775808 ≤ x.n ∧ x.n ≤ 9223372036854775807
  v0 : -9223372036854775808 ≤ x.v ∧ x.v ≤ 9223372036854775807
  e0 : -9223372036854775808 ≤ x.e ∧ x.e ≤ 9223372036854775807
def AllOk (xs : List MV) : Prop := ∀ x ∈ xs, MOk x
def partsL (x : MV) : List ByteArray := [⟨(Lib.itoa x.s).toArray⟩, wordF x.w, ⟨(Lib.itoa x.n).toArray⟩, ⟨(Lib.itoa x.v).toArray⟩, ⟨(Lib.itoa x.e).toArray⟩]
def bodyL (x : MV) : List UInt8 := Lib.join ((partsL x).map (·.data.toList)) SP.data.toList
def lineL (x : MV) : List UInt8 := bodyL x ++ [10]
def textL (xs : List MV) : List UInt8 := (xs.map lineL).flatten
theorem text_next {xs : List MV} {k : Nat} {x : MV} (h : xs[k]? = some x) : textL (xs.take (k + 1)) = textL (xs.take k) ++ lineL x := by
  rw [List.take_add_one, h]; simp [textL]
theorem word_len (a : Int) : (wordF a).data.toList.length ≤ 20 := by
  unfold wordF
  have all : ∀ j, j < 17 → ((wl[j]?).getD ⟨#[]⟩).data.toList.length ≤ 20 := by decide +kernel
  by_cases h : a.toNat < 17
  · exact all _ h
  · rw [List.getElem?_eq_none (show wl.length ≤ a.toNat by show 17 ≤ a.toNat; omega)]; decide
theorem body_len {x : MV} (h : MOk x) : (bodyL x).length ≤ 200 := by
  have a1 := Lib.itoa_length_le x.s h.s0.1 h.s0.2
  have a2 := word_len x.w
  have a3 := Lib.itoa_length_le x.n h.n0.1 h.n0.2
  have a4 := Lib.itoa_length_le x.v h.v0.1 h.v0.2
  have a5 := Lib.itoa_length_le x.e h.e0.1 h.e0.2
  have e : SP.data.toList = [32] := rfl
  unfold bodyL partsL
  rw [e]
  simp only [List.map_cons, List.map_nil, Lib.join_cons, Lib.joinTail, List.flatten_cons, List.flatten_nil, List.length_append, List.length_cons, List.length_nil]
  omega
theorem line_len {x : MV} (h : MOk x) : (lineL x).length ≤ 201 := by
  have := body_len h
  unfold lineL; rw [List.length_append]; simp; omega
theorem text_len {xs : List MV} (h : AllOk xs) : ∀ k, (textL (xs.take k)).length ≤ 201 * k := by
  intro k
  induction k with
  | zero => simp [textL]
  | succ k ih =>
    cases e : xs[k]? with
    | none =>
      have hk := List.getElem?_eq_none_iff.1 e
      have e1 : xs.take (k + 1) = xs.take k := by rw [List.take_of_length_le hk, List.take_of_length_le (by omega)]
      rw [e1]; omega
    | some x =>
      have := line_len (h x (List.mem_of_getElem? e))
      rw [text_next e, List.length_append]; omega
def printF (xs : List MV) : ByteArray × Int := if xs.all toldB then (⟨(textL xs).toArray⟩, 0) else (⟨#[]⟩, 3)
theorem join_any (b : Nat) (x : MV) (hx : MOk x) (w : World) (hR : ES.Rd w (some ⟨b, 0, none⟩) (partsL x)) :
    Calls Tryd.prog 23 #[.slice (some ⟨b, 0, none⟩) 5 5, .string SP] w fun e w' => e = .returned (.string ⟨(bodyL x).toArray⟩) ∧ Below w.heap.size w w' := by
  have hb : b < w.heap.size := by
    obtain ⟨b', off, e, h1, h2⟩ := es_at hR (i := 0) rfl
    cases e; exact h1
  have g := sh_strings_Join b 0 5 (partsL x) SP w (fun j y hy => by
    obtain ⟨b', off, e, h1, h2⟩ := es_at hR hy
    cases e; exact h2) hb (by show 5 ≤ _; omega) (by show 5 ≤ 5; omega) (by have := body_len hx; unfold bodyL at this; omega)
  exact g
set_option maxRecDepth 100000 in
set_option maxHeartbeats 8000000 in
theorem print_any (A : Option Addr) (n cap : Nat) (xs : List MV) (w : World) (hl : xs.length = n) (hn : n ≤ 1000) (hA : EM.Rd w A xs) (ho : AllOk xs) (h : GW w) :
    Calls Tryd.prog 7 #[.slice A n cap] w fun r w' => r = .returned (.tuple #[.string (printF xs).1, .int .i64 (printF xs).2]) ∧ Below w.heap.size w w' := by
  have HL := Lib.hid hl
  have HA := Lib.hid hA
  have HO := Lib.hid ho
  have HG := Lib.hid (fun W (b : Below w.heap.size w W) => h.later b)
  have HT := Lib.hid (text_len ho)
  obtain ⟨pf, hpf⟩ : ∃ pf, printF xs = pf := ⟨_, rfl⟩
  rw [hpf]
  have HPF := Lib.hid hpf
  have B0 := Lib.hid (alb w (.cells #[.pointer none, .slice none 0 0] 46))
  have D0 := Lib.hid (Bd.new w)
  clear hl hA ho h hpf
  go_enter Tryd.func7, Tryd.ntmps7
  go_upto_region 3 with fail
  go_loopw [10] (fun iv wr => ∃ (k : Nat), k ≤ n ∧ iv = .int .i64 k ∧ Hid ((xs.take k).all toldB = true) ∧ Hid (Bd w.heap.size w.heap.size (textL (xs.take k)) wr) ∧ Below w.heap.size w wr) (fun i _ => n - (intOf i).toNat)
  case atStart => exact ⟨0, by omega, rfl, Lib.hid rfl, Lib.hid D0.out, B0.out⟩
  case round =>
    obtain ⟨k, hk, rfl, HAL, HD, hb⟩ := hrel
    have HB := Lib.hid hb
    clear hb
    by_cases h8 : k < n
    · have hk1 : (k : Int) < (n : Int) := by omega
      have hk0 : (0 : Int) ≤ (k : Int) := by omega
      obtain ⟨x, hx⟩ : ∃ x, xs[k]? = some x := ⟨_, List.getElem?_eq_getElem (by rw [HL.out]; omega)⟩
      obtain ⟨b, off, rfl, hlt, g0, g1, g2, g3, g4⟩ := em_at (HA.out.later HB.out) hx
      have hxo := HO.out x (List.mem_of_getElem? hx)
      have HXO := Lib.hid hxo
      have HNX := Lib.hid (text_next hx)
      have BX := Lib.hid (bel_alloc HB.out (MO x))
      have TL := Lib.hid (told_any x hxo.w0 hxo.w1 (wr.alloc (MO x)) (HG.out _ BX.out))
      have HX := Lib.hid hx
      have Z0 := Lib.hid (heap_alloc_new wr (MO x))
      clear hx hlt hxo
      obtain ⟨c0, c1, c2, c3, c4⟩ := cells5 Z0.out
      cases ht : toldB x with
      | false =>
        rw [ht] at TL
        have HF : Hid (pf = (⟨#[]⟩, 3)) := Lib.hid (by
          rw [← HPF.out]; unfold printF
          rw [if_neg]
          intro e
          rw [List.all_eq_true] at e
          have := e x (List.mem_of_getElem? HX.out)
          rw [ht] at this; cases this)
        clear ht
        go_wp2_with (first
          | (go_at_call 20; ((with_reducible refine TL.out.mono ?_); rintro e w1 ⟨rfl, bb⟩; have B1 := Lib.hid (bel_trans BX.out bb); clear bb c0 c1 c2 c3 c4))
          | fail)
        refine bodyPost_ret (v := .tuple #[.string ⟨#[]⟩, .int .i64 3]) (by simp [results, Tryd.results7, go_sem]) rfl ⟨by rw [HF.out], B1.out⟩
      | true =>
        rw [ht] at TL
        have HAL2 : Hid ((xs.take (k + 1)).all toldB = true) := Lib.hid (by rw [List.take_add_one, HX.out]; simp [HAL.out, ht])
        have HLEN : Hid ((textL (xs.take k)).length ≤ 201 * 1000) := Lib.hid (by have := HT.out k; omega)
        clear ht
        go_upto_region 7 with (first
          | (go_at_call 20; ((with_reducible refine TL.out.mono ?_); rintro e w1 ⟨rfl, bb⟩; replace BX := Lib.hid (bel_trans BX.out bb); replace Z0 := Lib.hid (keep_bel bb Z0.out); replace HD := Lib.hid ((HD.out.bel (alb wr (MO x))).bel bb); clear bb c0 c1 c2 c3 c4))
          | fail)
        have QS := Lib.hid (show ∀ p ∈ ([(wr.heap.size, MO x)] : List (Nat × Obj)), w1.heap[p.1]? = some p.2 by
          intro p hp
          simp only [List.mem_cons, List.not_mem_nil, or_false] at hp
          subst hp
          exact Z0.out)
        refine wp_region_held_drew (S := (SK w1 [(wr.heap.size, MO x)])) (by kernel_rfl) ?_ (fun hHeld => ?_)
        · exact SK.start QS.out
        have HHeld := Lib.hid hHeld; clear hHeld
        refine wpAnyH_take (i := 0) (oi := { dst := some 17, op := Op.fieldAddr 35 (Operand.tmp 6) 0, type := 0, pos := "trace.go:37", after := #[], guard := none }) (v := ?_) rfl (by kernel_rfl) (by kernel_rfl) (by kernel_rfl) (fun _ _ _ h => h) (Or.inl ⟨by rfl, ?_⟩) HHeld.out ?_
        rotate_left
        · intro w hSw; clear hSw; go_simp; try with_reducible rfl
        try simp only [Act.put, List.setIfInBounds_toArray, List.set_cons_zero, List.set_cons_succ]
        refine wpAnyH_take (i := 1) (oi := { dst := some 18, op := Op.load 3 (Operand.tmp 17), type := 3, pos := "trace.go:37", after := #[{ on := 0, ground := Ground.data }], guard := none }) (v := (.int .i64 x.s : Value)) rfl (by kernel_rfl) (by kernel_rfl) (by kernel_rfl) (fun _ _ _ h => h) (Or.inl ⟨by rfl, ?_⟩) HHeld.out ?_
        · intro V hV; have hc0 := (cells5 (hV.g 0 rfl)).1; clear hV; go_simp
        try simp only [Act.put, List.setIfInBounds_toArray, List.set_cons_zero, List.set_cons_succ]
        refine wpAnyH_take (i := 3) (oi := { dst := some 20, op := Op.fieldAddr 35 (Operand.tmp 6) 1, type := 0, pos := "trace.go:37", after := #[], guard := none }) (v := ?_) rfl (by kernel_rfl) (by kernel_rfl) (by kernel_rfl) (fun _ _ _ h => h) (Or.inl ⟨by rfl, ?_⟩) HHeld.out ?_
        rotate_left
        · intro w hSw; clear hSw; go_simp; try with_reducible rfl
        try simp only [Act.put, List.setIfInBounds_toArray, List.set_cons_zero, List.set_cons_succ]
        refine wpAnyH_take (i := 4) (oi := { dst := some 21, op := Op.load 33 (Operand.tmp 20), type := 33, pos := "trace.go:37", after := #[{ on := 3, ground := Ground.data }], guard := none }) (v := (.int .u8 x.w : Value)) rfl (by kernel_rfl) (by kernel_rfl) (by kernel_rfl) (fun _ _ _ h => h) (Or.inl ⟨by rfl, ?_⟩) HHeld.out ?_
        · intro V hV; have hc0 := (cells5 (hV.g 0 rfl)).2.1; clear hV; go_simp
        try simp only [Act.put, List.setIfInBounds_toArray, List.set_cons_zero, List.set_cons_succ]
        refine wpAnyH_take (i := 6) (oi := { dst := some 23, op := Op.fieldAddr 35 (Operand.tmp 6) 2, type := 0, pos := "trace.go:37", after := #[], guard := none }) (v := ?_) rfl (by kernel_rfl) (by kernel_rfl) (by kernel_rfl) (fun _ _ _ h => h) (Or.inl ⟨by rfl, ?_⟩) HHeld.out ?_
        rotate_left
        · intro w hSw; clear hSw; go_simp; try with_reducible rfl
        try simp only [Act.put, List.setIfInBounds_toArray, List.set_cons_zero, List.set_cons_succ]
        refine wpAnyH_take (i := 7) (oi := { dst := some 24, op := Op.load 3 (Operand.tmp 23), type := 3, pos := "trace.go:37", after := #[{ on := 6, ground := Ground.data }], guard := none }) (v := (.int .i64 x.n : Value)) rfl (by kernel_rfl) (by kernel_rfl) (by kernel_rfl) (fun _ _ _ h => h) (Or.inl ⟨by rfl, ?_⟩) HHeld.out ?_
        · intro V hV; have hc0 := (cells5 (hV.g 0 rfl)).2.2.1; clear hV; go_simp
        try simp only [Act.put, List.setIfInBounds_toArray, List.set_cons_zero, List.set_cons_succ]
        refine wpAnyH_take (i := 9) (oi := { dst := some 26, op := Op.fieldAddr 35 (Operand.tmp 6) 3, type := 0, pos := "trace.go:37", after := #[], guard := none }) (v := ?_) rfl (by kernel_rfl) (by kernel_rfl) (by kernel_rfl) (fun _ _ _ h => h) (Or.inl ⟨by rfl, ?_⟩) HHeld.out ?_
        rotate_left
        · intro w hSw; clear hSw; go_simp; try with_reducible rfl
        try simp only [Act.put, List.setIfInBounds_toArray, List.set_cons_zero, List.set_cons_succ]
        refine wpAnyH_take (i := 10) (oi := { dst := some 27, op := Op.load 3 (Operand.tmp 26), type := 3, pos := "trace.go:37", after := #[{ on := 9, ground := Ground.data }], guard := none }) (v := (.int .i64 x.v : Value)) rfl (by kernel_rfl) (by kernel_rfl) (by kernel_rfl) (fun _ _ _ h => h) (Or.inl ⟨by rfl, ?_⟩) HHeld.out ?_
        · intro V hV; have hc0 := (cells5 (hV.g 0 rfl)).2.2.2.1; clear hV; go_simp
        try simp only [Act.put, List.setIfInBounds_toArray, List.set_cons_zero, List.set_cons_succ]
        refine wpAnyH_take (i := 12) (oi := { dst := some 29, op := Op.fieldAddr 35 (Operand.tmp 6) 4, type := 0, pos := "trace.go:37", after := #[], guard := none }) (v := ?_) rfl (by kernel_rfl) (by kernel_rfl) (by kernel_rfl) (fun _ _ _ h => h) (Or.inl ⟨by rfl, ?_⟩) HHeld.out ?_
        rotate_left
        · intro w hSw; clear hSw; go_simp; try with_reducible rfl
        try simp only [Act.put, List.setIfInBounds_toArray, List.set_cons_zero, List.set_cons_succ]
        refine wpAnyH_take (i := 13) (oi := { dst := some 30, op := Op.load 24 (Operand.tmp 29), type := 24, pos := "trace.go:37", after := #[{ on := 12, ground := Ground.data }], guard := none }) (v := (.int .i64 x.e : Value)) rfl (by kernel_rfl) (by kernel_rfl) (by kernel_rfl) (fun _ _ _ h => h) (Or.inl ⟨by rfl, ?_⟩) HHeld.out ?_
        · intro V hV; have hc0 := (cells5 (hV.g 0 rfl)).2.2.2.2; clear hV; go_simp
        try simp only [Act.put, List.setIfInBounds_toArray, List.set_cons_zero, List.set_cons_succ]
        refine wpAnyH_ready (rs := [2]) (by kernel_rfl) (by simp) ?_
        refine AllReadyH.cons (o := { dst := some 19, op := Op.call { callee := Callee.value (Operand.func 21), args := #[Operand.tmp 18], argTypes := #[3] }, type := 9, pos := "trace.go:37", after := #[{ on := 1, ground := Ground.data }], guard := none }) rfl (fun K hK => ?_) AllReadyH.nil
        go_simp
        go_at_call 21; ((with_reducible refine (itoa_any x.s HXO.out.s0.1 HXO.out.s0.2 _ (HG.out _ (bel_trans BX.out HHeld.out.b))).mono ?_); rintro e v2 ⟨rfl, bb⟩; have K2 := Lib.hid (HHeld.out.later bb); clear bb)
        refine hK.out _ _ ?_ (fun hHeld => ?_)
        · exact K2.out
        clear HHeld; have HHeld := Lib.hid hHeld; clear hHeld
        clear hK K
        try simp only [Act.put, List.setIfInBounds_toArray, List.set_cons_zero, List.set_cons_succ]
        refine wpAnyH_ready (rs := [5]) (by kernel_rfl) (by simp) ?_
        refine AllReadyH.cons (o := { dst := some 22, op := Op.call { callee := Callee.value (Operand.func 18), args := #[Operand.tmp 21], argTypes := #[33] }, type := 9, pos := "trace.go:37", after := #[{ on := 4, ground := Ground.data }, { on := 2, ground := Ground.chain }], guard := none }) rfl (fun K hK => ?_) AllReadyH.nil
        go_simp
        go_at_call 18; ((with_reducible refine (word_any x.w HXO.out.w0 HXO.out.w1 _ (HG.out _ (bel_trans BX.out HHeld.out.b))).mono ?_); rintro e v5 ⟨rfl, bb⟩; have K5 := Lib.hid (HHeld.out.later bb); clear bb)
        refine hK.out _ _ ?_ (fun hHeld => ?_)
        · exact K5.out
        clear HHeld; have HHeld := Lib.hid hHeld; clear hHeld
        clear hK K
        try simp only [Act.put, List.setIfInBounds_toArray, List.set_cons_zero, List.set_cons_succ]
        refine wpAnyH_ready (rs := [8]) (by kernel_rfl) (by simp) ?_
        refine AllReadyH.cons (o := { dst := some 25, op := Op.call { callee := Callee.value (Operand.func 21), args := #[Operand.tmp 24], argTypes := #[3] }, type := 9, pos := "trace.go:37", after := #[{ on := 7, ground := Ground.data }, { on := 5, ground := Ground.chain }], guard := none }) rfl (fun K hK => ?_) AllReadyH.nil
        go_simp
        go_at_call 21; ((with_reducible refine (itoa_any x.n HXO.out.n0.1 HXO.out.n0.2 _ (HG.out _ (bel_trans BX.out HHeld.out.b))).mono ?_); rintro e v8 ⟨rfl, bb⟩; have K8 := Lib.hid (HHeld.out.later bb); clear bb)
        refine hK.out _ _ ?_ (fun hHeld => ?_)
        · exact K8.out
        clear HHeld; have HHeld := Lib.hid hHeld; clear hHeld
        clear hK K
        try simp only [Act.put, List.setIfInBounds_toArray, List.set_cons_zero, List.set_cons_succ]
        refine wpAnyH_ready (rs := [11]) (by kernel_rfl) (by simp) ?_
        refine AllReadyH.cons (o := { dst := some 28, op := Op.call { callee := Callee.value (Operand.func 21), args := #[Operand.tmp 27], argTypes := #[3] }, type := 9, pos := "trace.go:37", after := #[{ on := 10, ground := Ground.data }, { on := 8, ground := Ground.chain }], guard := none }) rfl (fun K hK => ?_) AllReadyH.nil
        go_simp
        go_at_call 21; ((with_reducible refine (itoa_any x.v HXO.out.v0.1 HXO.out.v0.2 _ (HG.out _ (bel_trans BX.out HHeld.out.b))).mono ?_); rintro e v11 ⟨rfl, bb⟩; have K11 := Lib.hid (HHeld.out.later bb); clear bb)
        refine hK.out _ _ ?_ (fun hHeld => ?_)
        · exact K11.out
        clear HHeld; have HHeld := Lib.hid hHeld; clear hHeld
        clear hK K
        try simp only [Act.put, List.setIfInBounds_toArray, List.set_cons_zero, List.set_cons_succ]
        refine wpAnyH_ready (rs := [14]) (by kernel_rfl) (by simp) ?_
        refine AllReadyH.cons (o := { dst := some 31, op := Op.call { callee := Callee.value (Operand.func 21), args := #[Operand.tmp 30], argTypes := #[3] }, type := 9, pos := "trace.go:37", after := #[{ on := 13, ground := Ground.data }, { on := 11, ground := Ground.chain }], guard := none }) rfl (fun K hK => ?_) AllReadyH.nil
        go_simp
        go_at_call 21; ((with_reducible refine (itoa_any x.e HXO.out.e0.1 HXO.out.e0.2 _ (HG.out _ (bel_trans BX.out HHeld.out.b))).mono ?_); rintro e v14 ⟨rfl, bb⟩; have K14 := Lib.hid (HHeld.out.later bb); clear bb)
        refine hK.out _ _ ?_ (fun hHeld => ?_)
        · exact K14.out
        clear HHeld; have HHeld := Lib.hid hHeld; clear hHeld
        clear hK K
        try simp only [Act.put, List.setIfInBounds_toArray, List.set_cons_zero, List.set_cons_succ]
        refine wpAnyH_ready (rs := [15]) (by kernel_rfl) (by simp) ?_
        refine AllReadyH.cons (o := { dst := some 32, op := Op.buildSlice 49 5 #[(0, Operand.tmp 19), (1, Operand.tmp 22), (2, Operand.tmp 25), (3, Operand.tmp 28), (4, Operand.tmp 31)], type := 49, pos := "trace.go:37", after := #[{ on := 2, ground := Ground.data }, { on := 5, ground := Ground.data }, { on := 8, ground := Ground.data }, { on := 11, ground := Ground.data }, { on := 14, ground := Ground.data }], guard := none }) rfl (fun K hK => ?_) AllReadyH.nil
        go_simp
        refine at_k (fun V2 hV2 => ?_)
        have RP := Lib.hid (show ES.Rd V2 (some ⟨v14.heap.size, 0, none⟩) (partsL x) by rw [hV2]; exact RE.Rd.lit (E := ES) v14 9 (partsL x) _ rfl)
        have b15 := Lib.hid (show Below v14.heap.size v14 V2 by rw [hV2]; exact alb _ _)
        have K15 := Lib.hid (K14.out.later b15.out)
        clear hV2
        refine hK.out _ _ ?_ (fun hHeld => ?_)
        · exact K15.out
        clear HHeld; have HHeld := Lib.hid hHeld; clear hHeld
        clear hK K
        try simp only [Act.put, List.setIfInBounds_toArray, List.set_cons_zero, List.set_cons_succ]
        refine wpAnyH_take (i := 16) (oi := { dst := some 7, op := Op.assign (Operand.tmp 32), type := 49, pos := "trace.go:37", after := #[{ on := 15, ground := Ground.data }, { on := 14, ground := Ground.chain }, { on := 0, ground := Ground.phase }, { on := 1, ground := Ground.phase }, { on := 2, ground := Ground.phase }, { on := 3, ground := Ground.phase }, { on := 4, ground := Ground.phase }, { on := 5, ground := Ground.phase }, { on := 6, ground := Ground.phase }, { on := 7, ground := Ground.phase }, { on := 8, ground := Ground.phase }, { on := 9, ground := Ground.phase }, { on := 10, ground := Ground.phase }, { on := 11, ground := Ground.phase }, { on := 12, ground := Ground.phase }, { on := 13, ground := Ground.phase }, { on := 14, ground := Ground.phase }, { on := 15, ground := Ground.phase }], guard := none }) (v := ?_) rfl (by kernel_rfl) (by kernel_rfl) (by kernel_rfl) (fun _ _ _ h => h) (Or.inl ⟨by rfl, ?_⟩) HHeld.out ?_
        rotate_left
        · intro w hSw; clear hSw; go_simp; try with_reducible rfl
        try simp only [Act.put, List.setIfInBounds_toArray, List.set_cons_zero, List.set_cons_succ]
        refine wpAnyH_done (by kernel_rfl) ?_ _
        refine at_exit (fun WF hWF => ?_)
        have KF := Lib.hid (show SK w1 [(wr.heap.size, MO x)] WF by rw [hWF]; exact HHeld.out)
        have RF := Lib.hid (show ES.Rd WF (some ⟨v14.heap.size, 0, none⟩) (partsL x) by rw [hWF]; exact RP.out)
        clear HHeld hWF
        have BF := Lib.hid (bel_trans BX.out KF.out.b)
        have DF := Lib.hid (HD.out.bel KF.out.b)
        have JA := Lib.hid (join_any _ x HXO.out WF RF.out)
        have HSZ : Hid (((⟨(bodyL x).toArray⟩ : ByteArray)).size ≤ 200) := Lib.hid (by have := body_len HXO.out; show (bodyL x).toArray.size ≤ 200; simpa using this)
        have HTX : Hid (textL (xs.take (k + 1)) = (textL (xs.take k) ++ (⟨(bodyL x).toArray⟩ : ByteArray).data.toList) ++ [(10 : UInt8)]) := Lib.hid (by rw [HNX.out]; unfold lineL; simp)
        clear K2 K5 K8 K11 K14 K15 RP b15 RF KF
        go_wp2_with (first
          | (go_at_call 23; ((refine JA.out.mono ?_); rintro e u1 ⟨rfl, bb⟩; have D1 := Lib.hid (DF.out.bel bb); have B1 := Lib.hid (bel_trans BF.out bb); clear bb))
          | (go_at_call 22; ((refine (writeString_any w.heap.size w.heap.size _ _ _ D1.out (by have := HLEN.out; have := HSZ.out; omega) B1.out.size).mono ?_); rintro e u2 ⟨rfl, d2, b2, -⟩; have D2 := Lib.hid d2; have B2 := Lib.hid (B1.out.trans b2); clear d2 b2))
          | (go_at_call 24; ((refine (writeByte_any w.heap.size w.heap.size _ 10 _ D2.out (by rw [List.length_append]; have h1 := HLEN.out; have h2 := body_len HXO.out; show (textL (xs.take k)).length + (bodyL x).length + 1 ≤ 140737488355328; omega) B2.out.size).mono ?_); rintro e u3 ⟨rfl, d3, b3, -⟩; have D3 := Lib.hid d3; have B3 := Lib.hid (B2.out.trans b3); clear d3 b3))
          | fail)
        exact ⟨⟨k + 1, by omega, by simp, HAL2, Lib.hid (by rw [HTX.out]; exact D3.out), B3.out⟩, by simp [intOf]; omega⟩
    · have hk1 : ¬ (k : Int) < (n : Int) := by omega
      have e : xs.take k = xs := List.take_of_length_le (by rw [HL.out]; omega)
      rw [e] at HAL HD
      have HF : Hid (pf = (⟨(textL xs).toArray⟩, 0)) := Lib.hid (by rw [← HPF.out]; unfold printF; rw [if_pos HAL.out])
      clear e
      go_wp2_with (first
        | (go_at_call 25; ((refine (string_any w.heap.size w.heap.size _ _ HD.out HB.out.size).mono ?_); rintro e u1 ⟨rfl, bb, -⟩; have B1 := Lib.hid (HB.out.trans bb); clear bb))
        | fail)
      refine bodyPost_ret (v := .tuple #[.string ⟨(textL xs).toArray⟩, .int .i64 0]) (by simp [results, Tryd.results7, go_sem]) rfl ⟨by rw [HF.out], B1.out⟩
end Go.Proofs.YtocbabckihcdmaaDoor
