/- Both tables alike. -/
import Derived.Test.YtdbcaiggliiacaaT3
namespace Go.Proofs.Ytdbcaiggliiacaa
set_option linter.unusedSimpArgs false
open Go.RowKit Go.Maps Go.Sort Go.Shelf
set_option linter.unusedVariables false
attribute [local go_sem] Oper.semAt_some
/-- The number of the last of the first k. -/
def lastN (L : List XE) : Nat → Int
  | 0 => 0
  | k + 1 => (L.getD k (0, ⟨#[]⟩, ⟨#[]⟩)).1
theorem lastN_lt {L : List XE} (hu : (L.map (·.1)).Pairwise (· < ·)) (h0 : ∀ x ∈ L, 0 < x.1) {k : Nat} {x : XE} (hx : L[k]? = some x) : lastN L k < x.1 := by
  cases k with
  | zero => exact h0 x (List.mem_of_getElem? hx)
  | succ k =>
    rw [List.pairwise_iff_getElem] at hu
    obtain ⟨h1, rfl⟩ := List.getElem?_eq_some_iff.1 hx
    have := hu k (k + 1) (by simp; omega) (by simpa using h1) (by omega)
    simp only [List.getElem_map] at this
    simp only [lastN, List.getD_eq_getElem?_getD, List.getElem?_eq_getElem (show k < L.length by omega), Option.getD_some]
    exact this
/-- What lies between the rounds. -/
def AlI (bn bl : Nat) (L : List XE) (k : Nat) (D : Nat → Prop) (W : World) : Prop := D = (fun g => g = bn ∨ g = bl) ∧ Boxed W bn 3 (.int .i64 k) ∧ Boxed W bl 3 (.int .i64 (lastN L k))
theorem alI_loc (bn bl B : Nat) (L : List XE) : LocB B (AlI bn bl L) := by
  rintro k D W W' ⟨rfl, h1, h2⟩ hc
  exact ⟨rfl, boxed_chg h1 hc (fun h => h.1 (.inl rfl)), boxed_chg h2 hc (fun h => h.1 (.inr rfl))⟩
theorem run_isnil (g : Fn) (r l : Array Value) (W : World) : Sem.run Try.prog (binOp BinOp.eql 69 (Value.func g r l) Value.nilFunc) W = .ok (.bool false) W := by
  have h0 : ∀ d : Nat, (Op.equalIn (d + 1) 69 (Value.func g r l) Value.nilFunc).run Try.prog W = .ok false W := fun d => by simp [Op.equalIn, run_underlying Try.underlying69]
  have h1 := h0 9999
  have e : Op.equal 69 (Value.func g r l) Value.nilFunc = Op.equalIn (9999 + 1) 69 (Value.func g r l) Value.nilFunc := rfl
  rw [← e] at h1
  simp [binOp, go_sem, h1]
set_option maxRecDepth 100000 in
set_option maxHeartbeats 8000000 in
theorem alike_any {w : World} {N M m : Nat} {last : Int} {A : Option Addr} {q cap : Nat} {xs : List RC} (h : PT w N M m (opn xs) last (lk xs)) (hx : EQ.Rd w A xs) (hq : xs.length = q) (hq2 : q ≤ 1000) :
    Calls Try.prog 9 #[.pointer (some ⟨N, 0, none⟩), .slice A q cap] w fun e w' => e = .returned (.bool true) ∧ Below w.heap.size w w' := by
  obtain ⟨L, hL⟩ : ∃ L, L = ents xs := ⟨_, rfl⟩
  have hLS : Lists (lk xs) L := by rw [hL]; exact ents_lists xs
  have hLA : ∀ x ∈ L, ∃ p : Nat, ∃ e, x.1 = (p : Int) + 1 ∧ p < xs.length ∧ xs[p]? = some (x.2.1, x.2.2, e, false) := by rw [hL]; exact fun x hx => ents_at hx
  have hwf : ∀ x ∈ L, (Lit.int .i64 x.1).wf = true := fun x hx => by
    obtain ⟨p, e, h1, h2, _⟩ := hLA x hx
    exact wf_small (by omega) (by omega)
  have hpos : ∀ x ∈ L, 0 < x.1 := fun x hx => by
    obtain ⟨p, e, h1, h2, _⟩ := hLA x hx
    omega
  have hLn : L.length = opn xs := by rw [hL]; exact ents_len xs
  have hon := opn_le xs
  obtain ⟨V, hV⟩ : ∃ V, V = (((w.alloc (.cells #[.slice A q cap] 25)).alloc (.cells #[.bool false] 4)).alloc (.cells #[.int .i64 0] 3)).alloc (.cells #[.int .i64 0] 3) := ⟨_, rfl⟩
  have hsV : V.heap.size = w.heap.size + 4 := by rw [hV]; simp
  have bV : Below w.heap.size w V := by rw [hV]; exact bel_alloc (bel_alloc (bel_alloc (bel_alloc (Below.refl _ _) _) _) _) _
  have hv0 : Boxed V w.heap.size 25 (.slice A q cap) := by
    rw [hV]; exact (((Boxed.new w 25 _).alloc _).alloc _).alloc _
  have hv1 : Boxed V (w.heap.size + 1) 4 (.bool false) := by
    have := (((Boxed.new (w.alloc (.cells #[.slice A q cap] 25)) 4 (.bool false)).alloc (.cells #[.int .i64 0] 3))).alloc (.cells #[.int .i64 0] 3)
    rw [hV]; simpa only [World.size_alloc] using this
  have hv2 : Boxed V (w.heap.size + 2) 3 (.int .i64 0) := by
    have := (Boxed.new ((w.alloc (.cells #[.slice A q cap] 25)).alloc (.cells #[.bool false] 4)) 3 (.int .i64 0)).alloc (.cells #[.int .i64 0] 3)
    rw [hV]; simpa only [World.size_alloc, Nat.add_assoc] using this
  have hv3 : Boxed V (w.heap.size + 3) 3 (.int .i64 0) := by
    have := Boxed.new (((w.alloc (.cells #[.slice A q cap] 25)).alloc (.cells #[.bool false] 4)).alloc (.cells #[.int .i64 0] 3)) 3 (.int .i64 0)
    rw [hV]; simpa only [World.size_alloc, Nat.add_assoc] using this
  have HPT := Lib.hid (h.later bV)
  have NW := Lib.hid h.lt
  have HA := Lib.hid (all_post HPT.out hLS (by omega) hwf)
  have HRX := Lib.hid (hx.later bV)
  have HX := Lib.hid hx
  have HV0 := Lib.hid hv0
  have HV1 := Lib.hid hv1
  have HV2 := Lib.hid hv2
  have HV3 := Lib.hid hv3
  have BV := Lib.hid bV
  have HSV := Lib.hid hsV
  have HLS := Lib.hid hLS
  have HLA := Lib.hid hLA
  have HPOS := Lib.hid hpos
  have HLN := Lib.hid hLn
  have HQ := Lib.hid hq
  have HON := Lib.hid hon
  clear h hx hv0 hv1 hv2 hv3 bV hsV hL hLS hLA hwf hpos hLn hq hon
  subst hV
  refine (callsIn_wide (n := 4)).1 ?_
  refine callsIn_of_wp_marks Try.func9 rfl trivial ?_ rfl
  simp only [Try.ntmps9, List.size_toArray, List.length_cons, List.length_nil, Nat.reduceAdd, Nat.reduceSub, Array.replicate_succ, Array.replicate_zero, List.push_toArray, List.append_toArray, List.nil_append, List.cons_append]
  gi_wp2_with fail
  refine ⟨trivial, (callsIn_wide.2 HA.out).mono ?_⟩
  rintro e w6 ⟨lb6, F6, R6, rfl, hb6, hs6, hr6, hrb6, hf6⟩
  have B6 := Lib.hid hb6
  have S6 := Lib.hid hs6
  have HR6 := Lib.hid hr6
  have HRB6 := Lib.hid hrb6
  have HF6 := Lib.hid hf6
  clear hr6 hrb6 hf6
  have hnil := run_isnil (.func 41) #[] lb6
  clear hb6 hs6
  gi_wp2
  have q0 := Lib.hid (boxed_later HV0.out B6.out)
  have q1 := Lib.hid (boxed_later HV1.out B6.out)
  have q2 := boxed_later HV2.out B6.out
  have q3 := boxed_later HV3.out B6.out
  have hs6 := B6.out.size
  have hs5 := HSV.out
  have HPT6 := Lib.hid (HPT.out.later B6.out)
  have HRX6 := Lib.hid (HRX.out.later B6.out)
  have hNV := HPT.out.lt
  rw [hs5] at hs6 hNV
  have HS6 := Lib.hid hs6
  clear hs5 hs6
  refine range_R (gf := 41) (lb := lb6) (encs := enc3) (xs := L) rfl (enters_of Try.func41 (by kernel_rfl) rfl) S6.out HR6.out HRB6.out (fun g hg => (HF6.out g hg).2) (fun _ => rfl) (AlI (w.heap.size + 2) (w.heap.size + 3) L) (fun _ _ _ _ => False) (alI_loc _ _ _ _) (fun c k D W W' h _ => h)
    (fun g => g = w.heap.size + 2 ∨ g = w.heap.size + 3) (fun g hg => ?_) ⟨rfl, q2, q3⟩
    (fun x U => { tmps := #[.pointer (some ⟨N, 0, none⟩), .slice A q cap, undef, .pointer (some ⟨w.heap.size, 0, none⟩), .pointer (some ⟨w.heap.size + 1, 0, none⟩), .pointer (some ⟨w.heap.size + 1 + 1, 0, none⟩), .pointer (some ⟨w.heap.size + 1 + 1 + 1, 0, none⟩), .func (.func 41) #[] lb6, .int .i64 x.1, .pointer (some ⟨U.heap.size, 0, none⟩), .pointer (some ⟨N, 0, none⟩), .func (.func 41) #[] lb6, .func (.func 41) #[] lb6, .bool false, .func (.func 41) #[] lb6, .int .i64 x.1, .agg #[.string x.2.1, .string x.2.2], undef, undef, undef, undef, undef, undef, undef, undef, undef, undef, undef, undef, undef, undef, undef, undef, undef, undef, undef, undef, undef, undef, undef, undef, undef, undef, undef, undef, undef, undef, undef, undef], defers := [] }) (fun x U => U.alloc (.cells #[.string x.2.1, .string x.2.2] 29)) (fun x U => alb U _) ?assign ?body ?done ?stop
  · have h5 := HSV.out
    have h6 := HS6.out
    refine ⟨fun hf => ?_, by omega⟩
    have := (HF6.out g hf).1
    omega
  case assign =>
    intro m l x U K hK
    gi_wp2
    exact hK
  case body =>
    rintro m l k p D U V o hx hl hlU rfl hinD hlD hgr hch ⟨rfl, hbn, hbl⟩
    have hup := lastN_lt HLS.out.up HPOS.out hx
    obtain ⟨j, eb, hj1, hj2, hj3⟩ := HLA.out p (List.mem_of_getElem? hx)
    have hlk : lastN L (k + 1) = p.1 := by simp [lastN, List.getD_eq_getElem?_getD, hx]
    have hkl : k < L.length := (List.getElem?_eq_some_iff.1 hx).1
    have hqq := HQ.out
    have hon := HON.out
    have hln := HLN.out
    obtain ⟨x0, x1, x2⟩ := p
    simp only at hj1 hj3 hup hlk
    subst hj1
    obtain ⟨Z, hZ⟩ : ∃ Z, Z = (U.alloc (.cells #[.string x1, .string x2] 29)).putObj l o := ⟨_, rfl⟩
    have zb : Z.heap[U.heap.size]? = some (.cells #[.string x1, .string x2] 29 (0, 0)) := by rw [hZ]; exact (World.putObj_heap_other (by omega)).trans (World.alloc_heap_new U _)
    simp only at hch hbn hbl
    rw [← hZ] at hch hbn hbl
    have bZ : Below w.heap.size w Z := BV.out.trans ((B6.out.mono (by have := HSV.out; omega)).trans (hch.below (fun g hg => by omega) (by have := HS6.out; omega)))
    have rxz := HX.out.later bZ
    obtain ⟨b, off, rfl, hlt, g0, g1, _, _⟩ := eq_at rxz hj3
    have r0 : Boxed Z w.heap.size 25 (.slice (some ⟨b, off, none⟩) q cap) := boxed_chg q0.out hch (by omega)
    have cl := hbl.cell
    have c0 := r0.cell
    obtain ⟨z0, z1⟩ := cells2 zb
    obtain ⟨lk0, hlk0⟩ : ∃ lk0, lk0 = lastN L k := ⟨_, rfl⟩
    rw [← hlk0] at cl hbl hup
    have HS0 : Hid (Z.drew.cell? ⟨w.heap.size, 0, none⟩ = some (.slice (some ⟨b, off, none⟩) q cap) ∧ Z.drew.cell? ⟨w.heap.size + 1 + 1 + 1, 0, none⟩ = some (.int .i64 lk0) ∧ Z.drew.cell? ⟨b, off + j * 4, none⟩ = some (.string x1) ∧ Z.drew.cell? ⟨b, off + j * 4 + 1, none⟩ = some (.string x2) ∧ Z.drew.cell? ⟨U.heap.size, 0, none⟩ = some (.string x1) ∧ Z.drew.cell? ⟨U.heap.size, 1, none⟩ = some (.string x2)) := Lib.hid ⟨c0, cl, g0, g1, z0, z1⟩
    have IS : Hid (∀ W, W = Z.drew → Calls Try.prog 26 #[.slice (some ⟨b, off, none⟩) q cap, .int .i64 ((j : Int) + 1)] W fun e w' => e = .returned (.bool true) ∧ W = w') := Lib.hid (fun W hW => by
      subst hW
      exact is_some (rxz.later (drew_bel Z)) (lk_open hj3) q cap hqq (by omega))
    have a1 : ¬ ((j : Int) + 1 ≤ lk0) := by omega
    have a2 : (0 : Int) ≤ (j : Int) := by omega
    have a3 : (j : Int) < (q : Int) := by omega
    have a4 : (j : Int) + 1 - 1 = (j : Int) := by omega
    have a5 : (k : Int) ≤ 1000 := by omega
    have a6 : IntKind.i64.wrap (j : Int) = (j : Int) := IntWalk.i64_in _ (by omega)
    have e1 : (x1.toList == x1.toList) = true := by simp
    have e2 : (x2.toList == x2.toList) = true := by simp
    have HBN := Lib.hid hbn
    have HBL := Lib.hid hbl
    have HLK := Lib.hid hlk
    clear hx hch hbn hbl hup hlk hkl hqq hon hln hj2 hj3 hgr hinD hlD rxz hlt g0 g1 r0 cl c0 z0 z1 bZ zb hlk0
    change (Code.block 1 _).wpIn _ _ _ _ _ ((U.alloc (.cells #[.string x1, .string x2] 29)).putObj l o)
    rw [← hZ]
    clear hZ
    gi_wp2_with fail
    refine region_round_held (S := (fun V : World => V.cell? ⟨w.heap.size, 0, none⟩ = some (.slice (some ⟨b, off, none⟩) q cap) ∧ V.cell? ⟨w.heap.size + 1 + 1 + 1, 0, none⟩ = some (.int .i64 lk0) ∧ V.cell? ⟨b, off + j * 4, none⟩ = some (.string x1) ∧ V.cell? ⟨b, off + j * 4 + 1, none⟩ = some (.string x2) ∧ V.cell? ⟨U.heap.size, 0, none⟩ = some (.string x1) ∧ V.cell? ⟨U.heap.size, 1, none⟩ = some (.string x2))) (by kernel_rfl) (fun o ho c => ?_) ?_ (fun hHeld => ?_)
    · simp only [List.mem_toArray, List.mem_cons, List.not_mem_nil, or_false] at ho; rcases ho with rfl | rfl | rfl | rfl | rfl | rfl | rfl | rfl | rfl | rfl | rfl | rfl | rfl | rfl | rfl | rfl | rfl | rfl | rfl <;> (intro h; cases h)
    · exact HS0.out
    have HHeld := Lib.hid hHeld; clear hHeld
    refine wpAnyH_take (i := 0) (oi := { dst := some 17, op := Op.move (Operand.tmp 8), type := 3, pos := "law.go:61", after := #[], guard := none }) (v := ?_) rfl (by kernel_rfl) (by kernel_rfl) (by kernel_rfl) (fun _ _ _ h => h) (Or.inl ⟨by rfl, ?_⟩) HHeld.out ?_
    rotate_left
    · intro w hSw; clear hSw; go_simp; try with_reducible rfl
    try simp only [Act.put, List.setIfInBounds_toArray, List.set_cons_zero, List.set_cons_succ]
    refine wpAnyH_take (i := 1) (oi := { dst := some 18, op := Op.load 3 (Operand.tmp 6), type := 3, pos := "law.go:61", after := #[], guard := none }) (v := Value.int .i64 lk0) rfl (by kernel_rfl) (by kernel_rfl) (by kernel_rfl) (fun _ _ _ h => h) (Or.inl ⟨by rfl, ?_⟩) HHeld.out ?_
    · intro V hV; have hc0 := hV.2.1; clear hV; go_simp
    try simp only [Act.put, List.setIfInBounds_toArray, List.set_cons_zero, List.set_cons_succ]
    refine wpAnyH_take (i := 2) (oi := { dst := some 19, op := Op.binOp BinOp.leq 3 (Operand.tmp 17) (Operand.tmp 18) 3, type := 4, pos := "law.go:61", after := #[{ on := 0, ground := Ground.data }, { on := 1, ground := Ground.data }], guard := none }) (v := Value.bool false) rfl (by kernel_rfl) (by kernel_rfl) (by kernel_rfl) (fun _ _ _ h => h) (Or.inl ⟨by rfl, ?_⟩) HHeld.out ?_
    · intro V hV; have hc0 := a1; clear hV; go_simp
    try simp only [Act.put, List.setIfInBounds_toArray, List.set_cons_zero, List.set_cons_succ]
    refine wpAnyH_take (i := 3) (oi := { dst := some 20, op := Op.move (Operand.tmp 19), type := 4, pos := "law.go:61", after := #[{ on := 2, ground := Ground.data }], guard := none }) (v := ?_) rfl (by kernel_rfl) (by kernel_rfl) (by kernel_rfl) (fun _ _ _ h => h) (Or.inl ⟨by rfl, ?_⟩) HHeld.out ?_
    rotate_left
    · intro w hSw; clear hSw; go_simp; try with_reducible rfl
    try simp only [Act.put, List.setIfInBounds_toArray, List.set_cons_zero, List.set_cons_succ]
    refine wpAnyH_take (i := 4) (oi := { dst := some 21, op := Op.load 25 (Operand.tmp 3), type := 25, pos := "law.go:61", after := #[{ on := 3, ground := Ground.guard }], guard := some (3, false) }) (v := Value.slice (some ⟨b, off, none⟩) q cap) rfl (by kernel_rfl) (by kernel_rfl) (by kernel_rfl) (fun _ _ _ h => h) (Or.inl ⟨by rfl, ?_⟩) HHeld.out ?_
    · intro V hV; have hc0 := hV.1; clear hV; go_simp
    try simp only [Act.put, List.setIfInBounds_toArray, List.set_cons_zero, List.set_cons_succ]
    refine wpAnyH_take (i := 5) (oi := { dst := some 22, op := Op.move (Operand.tmp 8), type := 3, pos := "law.go:61", after := #[{ on := 3, ground := Ground.guard }], guard := some (3, false) }) (v := ?_) rfl (by kernel_rfl) (by kernel_rfl) (by kernel_rfl) (fun _ _ _ h => h) (Or.inl ⟨by rfl, ?_⟩) HHeld.out ?_
    rotate_left
    · intro w hSw; clear hSw; go_simp; try with_reducible rfl
    try simp only [Act.put, List.setIfInBounds_toArray, List.set_cons_zero, List.set_cons_succ]
    refine wpAnyH_ready (rs := [6]) (by kernel_rfl) (by simp) ?_
    refine AllReadyH.cons (o := { dst := some 23, op := Op.call { callee := Callee.value (Operand.func 26), args := #[Operand.tmp 21, Operand.tmp 22], argTypes := #[25, 3] }, type := 4, pos := "law.go:61", after := #[{ on := 4, ground := Ground.data }, { on := 5, ground := Ground.data }, { on := 3, ground := Ground.chain }, { on := 3, ground := Ground.guard }], guard := some (3, false) }) rfl (fun K hK => ?_) AllReadyH.nil
    go_simp
    go_at_call 26; ((with_reducible refine (IS.out _ rfl).mono ?_); rintro e w7 ⟨rfl, rfl⟩)
    refine hK.out _ _ ?_ (fun hHeld => ?_)
    · exact HS0.out
    clear HHeld; have HHeld := Lib.hid hHeld; clear hHeld
    clear hK K
    try simp only [Act.put, List.setIfInBounds_toArray, List.set_cons_zero, List.set_cons_succ]
    refine wpAnyH_take (i := 7) (oi := { dst := some 24, op := Op.unOp UnOp.not 4 (Operand.tmp 23), type := 4, pos := "law.go:61", after := #[{ on := 6, ground := Ground.data }, { on := 3, ground := Ground.guard }], guard := some (3, false) }) (v := ?_) rfl (by kernel_rfl) (by kernel_rfl) (by kernel_rfl) (fun _ _ _ h => h) (Or.inl ⟨by rfl, ?_⟩) HHeld.out ?_
    rotate_left
    · intro w hSw; clear hSw; go_simp; try with_reducible rfl
    try simp only [Act.put, List.setIfInBounds_toArray, List.set_cons_zero, List.set_cons_succ]
    refine wpAnyH_take (i := 8) (oi := { dst := some 25, op := Op.pick (Operand.tmp 20) (Operand.const (Value.bool true)) (Operand.tmp 24), type := 4, pos := "law.go:61", after := #[{ on := 3, ground := Ground.data }, { on := 7, ground := Ground.data }], guard := none }) (v := ?_) rfl (by kernel_rfl) (by kernel_rfl) (by kernel_rfl) (fun _ _ _ h => h) (Or.inl ⟨by rfl, ?_⟩) HHeld.out ?_
    rotate_left
    · intro w hSw; clear hSw; go_simp; try with_reducible rfl
    try simp only [Act.put, List.setIfInBounds_toArray, List.set_cons_zero, List.set_cons_succ]
    refine wpAnyH_take (i := 9) (oi := { dst := some 26, op := Op.move (Operand.tmp 25), type := 4, pos := "law.go:61", after := #[{ on := 8, ground := Ground.data }, { on := 6, ground := Ground.chain }], guard := none }) (v := ?_) rfl (by kernel_rfl) (by kernel_rfl) (by kernel_rfl) (fun _ _ _ h => h) (Or.inl ⟨by rfl, ?_⟩) HHeld.out ?_
    rotate_left
    · intro w hSw; clear hSw; go_simp; try with_reducible rfl
    try simp only [Act.put, List.setIfInBounds_toArray, List.set_cons_zero, List.set_cons_succ]
    refine wpAnyH_take (i := 10) (oi := { dst := some 27, op := Op.load 25 (Operand.tmp 3), type := 25, pos := "law.go:61", after := #[{ on := 9, ground := Ground.guard }], guard := some (9, false) }) (v := Value.slice (some ⟨b, off, none⟩) q cap) rfl (by kernel_rfl) (by kernel_rfl) (by kernel_rfl) (fun _ _ _ h => h) (Or.inl ⟨by rfl, ?_⟩) HHeld.out ?_
    · intro V hV; have hc0 := hV.1; clear hV; go_simp
    try simp only [Act.put, List.setIfInBounds_toArray, List.set_cons_zero, List.set_cons_succ]
    refine wpAnyH_take (i := 11) (oi := { dst := some 28, op := Op.move (Operand.tmp 8), type := 3, pos := "law.go:61", after := #[{ on := 9, ground := Ground.guard }], guard := some (9, false) }) (v := ?_) rfl (by kernel_rfl) (by kernel_rfl) (by kernel_rfl) (fun _ _ _ h => h) (Or.inl ⟨by rfl, ?_⟩) HHeld.out ?_
    rotate_left
    · intro w hSw; clear hSw; go_simp; try with_reducible rfl
    try simp only [Act.put, List.setIfInBounds_toArray, List.set_cons_zero, List.set_cons_succ]
    refine wpAnyH_take (i := 12) (oi := { dst := some 29, op := Op.binOp BinOp.sub 3 (Operand.tmp 28) (Operand.const (Value.int IntKind.i64 1)) 3, type := 3, pos := "law.go:61", after := #[{ on := 11, ground := Ground.data }, { on := 9, ground := Ground.guard }], guard := some (9, false) }) (v := ?_) rfl (by kernel_rfl) (by kernel_rfl) (by kernel_rfl) (fun _ _ _ h => h) (Or.inl ⟨by rfl, ?_⟩) HHeld.out ?_
    rotate_left
    · intro w hSw; clear hSw; go_simp; try with_reducible rfl
    try simp only [Act.put, List.setIfInBounds_toArray, List.set_cons_zero, List.set_cons_succ]
    refine wpAnyH_take (i := 13) (oi := { dst := some 30, op := Op.indexAddr 25 (Operand.tmp 27) (Operand.tmp 29), type := 0, pos := "law.go:61", after := #[{ on := 10, ground := Ground.data }, { on := 12, ground := Ground.data }, { on := 9, ground := Ground.guard }], guard := some (9, false) }) (v := ?_) rfl (by kernel_rfl) (by kernel_rfl) (by kernel_rfl) (fun _ _ _ h => h) (Or.inl ⟨by rfl, ?_⟩) HHeld.out ?_
    rotate_left
    · intro w hSw; clear hSw; go_simp; try with_reducible rfl
    try simp only [Act.put, List.setIfInBounds_toArray, List.set_cons_zero, List.set_cons_succ]
    refine wpAnyH_take (i := 14) (oi := { dst := some 31, op := Op.fieldAddr 67 (Operand.tmp 30) 0, type := 0, pos := "law.go:61", after := #[{ on := 13, ground := Ground.data }, { on := 9, ground := Ground.guard }], guard := some (9, false) }) (v := ?_) rfl (by kernel_rfl) (by kernel_rfl) (by kernel_rfl) (fun _ _ _ h => h) (Or.inl ⟨by rfl, ?_⟩) HHeld.out ?_
    rotate_left
    · intro w hSw; clear hSw; go_simp; try with_reducible rfl
    try simp only [Act.put, List.setIfInBounds_toArray, List.set_cons_zero, List.set_cons_succ]
    refine wpAnyH_take (i := 15) (oi := { dst := some 32, op := Op.load 29 (Operand.tmp 31), type := 29, pos := "law.go:61", after := #[{ on := 14, ground := Ground.data }, { on := 9, ground := Ground.guard }], guard := some (9, false) }) (v := Value.agg #[.string x1, .string x2]) rfl (by kernel_rfl) (by kernel_rfl) (by kernel_rfl) (fun _ _ _ h => h) (Or.inl ⟨by rfl, ?_⟩) HHeld.out ?_
    · intro V hV; have hc0 := hV.2.2.1; have hc1 := hV.2.2.2.1; clear hV; go_simp
    try simp only [Act.put, List.setIfInBounds_toArray, List.set_cons_zero, List.set_cons_succ]
    refine wpAnyH_take (i := 16) (oi := { dst := some 33, op := Op.load 29 (Operand.tmp 9), type := 29, pos := "law.go:61", after := #[{ on := 9, ground := Ground.guard }], guard := some (9, false) }) (v := Value.agg #[.string x1, .string x2]) rfl (by kernel_rfl) (by kernel_rfl) (by kernel_rfl) (fun _ _ _ h => h) (Or.inl ⟨by rfl, ?_⟩) HHeld.out ?_
    · intro V hV; have hc0 := hV.2.2.2.2.1; have hc1 := hV.2.2.2.2.2; clear hV; go_simp
    try simp only [Act.put, List.setIfInBounds_toArray, List.set_cons_zero, List.set_cons_succ]
    refine wpAnyH_take (i := 17) (oi := { dst := some 34, op := Op.binOp BinOp.neq 29 (Operand.tmp 32) (Operand.tmp 33) 29, type := 4, pos := "law.go:61", after := #[{ on := 15, ground := Ground.data }, { on := 16, ground := Ground.data }, { on := 9, ground := Ground.guard }], guard := some (9, false) }) (v := Value.bool false) rfl (by kernel_rfl) (by kernel_rfl) (by kernel_rfl) (fun _ _ _ h => h) (Or.inl ⟨by rfl, ?_⟩) HHeld.out ?_
    · intro V hV; have hc0 := e1; have hc1 := e2; clear hV; go_simp
    try simp only [Act.put, List.setIfInBounds_toArray, List.set_cons_zero, List.set_cons_succ]
    refine wpAnyH_take (i := 18) (oi := { dst := some 35, op := Op.pick (Operand.tmp 26) (Operand.const (Value.bool true)) (Operand.tmp 34), type := 4, pos := "law.go:61", after := #[{ on := 9, ground := Ground.data }, { on := 17, ground := Ground.data }], guard := none }) (v := ?_) rfl (by kernel_rfl) (by kernel_rfl) (by kernel_rfl) (fun _ _ _ h => h) (Or.inl ⟨by rfl, ?_⟩) HHeld.out ?_
    rotate_left
    · intro w hSw; clear hSw; go_simp; try with_reducible rfl
    try simp only [Act.put, List.setIfInBounds_toArray, List.set_cons_zero, List.set_cons_succ]
    refine wpAnyH_done (by kernel_rfl) ?_ _

    refine calm_normal ?_
    have bn7 := boxed_later HBN.out (drew_bel Z)
    have bl7 := boxed_later HBL.out (drew_bel Z)
    have cn7 := bn7.cell
    have fn7 := bn7.frozen
    have cl7 := bl7.cell
    have fl7 := bl7.frozen
    have BN7 := Lib.hid bn7
    have BL7 := Lib.hid bl7
    have B7 := Lib.hid (drew_bel Z)
    clear bn7 bl7
    generalize Z.drew = w7 at *
    gi_wp2
    have y1 : Boxed (w7.setCell ⟨w.heap.size + 3, 0, none⟩ (.int .i64 ((j : Int) + 1))) (w.heap.size + 2) 3 (.int .i64 k) := boxed_chg BN7.out (Chg.set (D := fun g => g = w.heap.size + 3) w7 _ rfl) (by omega)
    have y2 := BL7.out.set (.int .i64 ((j : Int) + 1))
    have y3 : Boxed ((w7.setCell ⟨w.heap.size + 3, 0, none⟩ (.int .i64 ((j : Int) + 1))).setCell ⟨w.heap.size + 2, 0, none⟩ (.int .i64 ((k : Int) + 1))) (w.heap.size + 3) 3 (.int .i64 ((j : Int) + 1)) := boxed_chg y2 (Chg.set (D := fun g => g = w.heap.size + 2) _ _ rfl) (by omega)
    refine ⟨_, Gr.refl _ _ _, ((Chg.of_below B7.out).trans (Chg.set (D := fun g => g = w.heap.size + 2 ∨ g = w.heap.size + 3) w7 _ (.inr rfl)) (fun g hg => .inl hg)).trans (Chg.set (D := fun g => g = w.heap.size + 2 ∨ g = w.heap.size + 3) _ _ (.inl rfl)) (fun g hg => .inl hg), rfl, y1.set _, ?_⟩
    rw [HLK.out]
    exact y3
  case done =>
    rintro D E U hD hE hgr hch ⟨rfl, hbn, hbl⟩ hK
    have b6U : Below w.heap.size w U := BV.out.trans ((B6.out.mono (by have := HSV.out; omega)).trans (hch.below (fun g hg => by omega) (by have := HS6.out; omega)))
    have r0 : Boxed U w.heap.size 25 (.slice A q cap) := boxed_chg q0.out hch (by omega)
    have r1 : Boxed U (w.heap.size + 1) 4 (.bool false) := boxed_chg q1.out hch (by omega)
    have hnw := NW.out
    have hpu := HPT6.out.keep hch (by omega) (by omega)
    have rxu := HX.out.later b6U
    rw [HLN.out] at hbn
    obtain ⟨nn, hnn⟩ : ∃ nn, nn = opn xs := ⟨_, rfl⟩
    have h1 := HON.out
    have h2 := HQ.out
    have RL : Hid (∀ W, Below U.heap.size U W → Calls Try.prog 28 #[.slice A q cap] W fun e w' => e = .returned (.int .i64 nn) ∧ W = w') := Lib.hid (fun W hW => by rw [hnn]; exact rlen_any (rxu.later hW) q cap h2 (by omega))
    have PL : Hid (∀ W, Below U.heap.size U W → Calls Try.prog 22 #[.pointer (some ⟨N, 0, none⟩)] W fun e w' => e = .returned (.int .i64 nn) ∧ W = w') := Lib.hid (fun W hW => by rw [hnn]; exact len_any (hpu.later hW))
    rw [← hnn] at hbn h1
    have cn := hbn.cell
    have c0 := r0.cell
    have c1 := r1.cell
    have f1 := r1.frozen
    have R1 := Lib.hid r1
    have HBU := Lib.hid b6U
    have HKD := Lib.hid hK
    clear hgr hch hbl hbn r0 r1 hpu rxu b6U hK hnn h2
    gi_wp2_with fail
    refine wpIn_calm (wpIn_wide.2 ?_)
    go_region_law (first
      | (go_simp; go_at_call 28; ((with_reducible refine (RL.out _ (drew_bel U)).mono ?_); rintro e w8 ⟨rfl, rfl⟩))
      | (go_simp; go_at_call 22; ((with_reducible refine (PL.out _ (drew_bel U)).mono ?_); rintro e w9 ⟨rfl, rfl⟩))
      | fail)
    all_goals
      refine calm_normal ?_
      gi_wp2
      have hBR : w.heap.size + 1 ≠ D := by have := HS6.out; omega
      have bR2 := R1.out.set (.bool true)
      have bD : Below w.heap.size w (U.setCell ⟨w.heap.size + 1, 0, none⟩ (.bool true)) := HBU.out.setCell (p := ⟨w.heap.size + 1, 0, none⟩) (by simp) _
      have hKs : (U.setCell ⟨w.heap.size + 1, 0, none⟩ (.bool true)).heap[D]? = some (.deferred (some [])) := (Below.heap_setCell _ _ _ _ (fun e => hBR e.symm)).trans HKD.out
      have KK : ∀ V, V.heap = (U.setCell ⟨w.heap.size + 1, 0, none⟩ (.bool true)).heap → V.os = (U.setCell ⟨w.heap.size + 1, 0, none⟩ (.bool true)).os → V.tape = (U.setCell ⟨w.heap.size + 1, 0, none⟩ (.bool true)).tape → V.output = (U.setCell ⟨w.heap.size + 1, 0, none⟩ (.bool true)).output → Below w.heap.size w V ∧ V.heap[D]? = some (.deferred (some [])) ∧ Boxed V (w.heap.size + 1) 4 (.bool true) := by
        intro V h1 h2 h3 h4
        refine ⟨⟨h2.trans bD.os, h3.trans bD.tape, h4.trans bD.output, by rw [h1]; exact bD.size, fun g hg => by rw [h1]; exact bD.block g hg⟩, by rw [h1]; exact hKs, ?_⟩
        show V.heap[_]? = _
        rw [h1]; exact bR2
      first
        | (obtain ⟨k1, k2, k3⟩ := KK (U.setCell ⟨w.heap.size + 1, 0, none⟩ (.bool true)).drew rfl rfl rfl rfl
           have cRf := (show Boxed ((U.setCell ⟨w.heap.size + 1, 0, none⟩ (.bool true)).drew.putObj D (.deferred none)) (w.heap.size + 1) 4 (.bool true) from (World.putObj_heap_other hBR).trans k3).cell
           exact ⟨by simp, .inl ⟨_, _, rfl, run_takeDeferred k2, .bool true, by simp [results, Try.results9, go_sem]; rw [cRf], rfl, k1.trans ((Chg.put (D := fun g => g = D) _ _ rfl).below (fun g (hg : g = D) => by have := HS6.out; omega) k1.size)⟩⟩)
        | (obtain ⟨k1, k2, k3⟩ := KK (U.drew.setCell ⟨w.heap.size + 1, 0, none⟩ (.bool true)) rfl rfl rfl rfl
           have cRf := (show Boxed ((U.drew.setCell ⟨w.heap.size + 1, 0, none⟩ (.bool true)).putObj D (.deferred none)) (w.heap.size + 1) 4 (.bool true) from (World.putObj_heap_other hBR).trans k3).cell
           exact ⟨by simp, .inl ⟨_, _, rfl, run_takeDeferred k2, .bool true, by simp [results, Try.results9, go_sem]; rw [cRf], rfl, k1.trans ((Chg.put (D := fun g => g = D) _ _ rfl).below (fun g (hg : g = D) => by have := HS6.out; omega) k1.size)⟩⟩)
  case stop =>
    rintro B c k D W _ _ _ _ _ h _
    exact h.elim
end Go.Proofs.Ytdbcaiggliiacaa
