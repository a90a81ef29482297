/- The least range of all. -/
import Derived.Test.YtdbnkeihnoglcaaS0
import Derived.Test.YtdbnkeihnoglcaaM3
import Derived.Deep.RegionHeld3
namespace Go.Proofs.Ytdbnkeihnoglcaa
set_option linter.unusedSimpArgs false
open Go.RowKit Go.Maps
set_option linter.unusedVariables false
theorem run_min_str (ts : Array TypeId) (t : TypeId) (x y : ByteArray) {P : Program} (w : World) : (Builtin.min_ ts t #[.string x, .string y]).run P w = .ok (.string (minS x y)) w := by
  have hb := bl_le x.toList y.toList
  cases h : Op.bytesLess y.toList x.toList
  · have : minS x y = x := by unfold minS lt; rw [h]; rfl
    rw [this]
    rw [h] at hb
    simp only [Builtin.min_, Builtin.min2, Op.stringOp, asBool, List.foldlM]
    simp [hb, asBool]
  · have : minS x y = y := by unfold minS lt; rw [h]; rfl
    rw [this]
    rw [h] at hb
    simp only [Builtin.min_, Builtin.min2, Op.stringOp, asBool, List.foldlM]
    simp [hb, asBool]
attribute [local go_sem] run_min_str
abbrev BV (q : ByteArray × ByteArray) (ok : Bool) : Value := .tuple #[.agg #[.string q.1, .string q.2], .bool ok]
theorem rg_set {W : World} {g : Nat} {x y : ByteArray} (z : W.heap[g]? = some (rgc x y)) (a b : ByteArray) : ((W.setCell ⟨g, 0, none⟩ (.string a)).setCell ⟨g, 1, none⟩ (.string b)).heap[g]? = some (rgc a b) := by
  simp [World.setCell, Array.getElem?_modify, z]
theorem rg_far {W : World} {g h : Nat} {o : Obj} (z : W.heap[h]? = some o) (hg : g ≠ h) (a b : Value) : ((W.setCell ⟨g, 0, none⟩ a).setCell ⟨g, 1, none⟩ b).heap[h]? = some o := by
  simp [World.setCell, Array.getElem?_modify, z, hg]
theorem tail_rd {w : World} {b off cap : Nat} {x0 : MG} {rest : List MG} (hA : EG.Rd w (some ⟨b, off, none⟩) (x0 :: rest)) (hn : rest.length + 1 ≤ cap) : EG.Rd w (some ⟨b, if cap = 1 then off else off + 6, none⟩) rest := by
  by_cases h : cap = 1
  · have : rest = [] := List.eq_nil_of_length_eq_zero (by omega)
    rw [this]; exact .inl rfl
  · rw [if_neg h]
    have q := hA.drop 1
    rw [Nat.one_mul] at q
    exact q
set_option maxRecDepth 100000 in
set_option maxHeartbeats 8000000 in
theorem bspan_some (b off cap r : Nat) (x0 : MG) (rest : List MG) (w : World) (hl : rest.length = r) (hn : r ≤ 1000) (hnc : r + 1 ≤ cap) (hA : EG.Rd w (some ⟨b, off, none⟩) (x0 :: rest)) (ho : OkA (x0 :: rest)) :
    Calls Try.prog 30 #[.slice (some ⟨b, off, none⟩) (r + 1) cap] w fun e w' => e = .returned (BV (spanL (x0 :: rest)) true) ∧ Below w.heap.size w w' := by
  have HL := Lib.hid hl
  have HO : Hid (OkA rest) := Lib.hid (fun x hx => ho x (List.mem_cons_of_mem _ hx))
  have HR := Lib.hid (fun W (hW : Below w.heap.size w W) => tail_rd (hA.later hW) (cap := cap) (by omega))
  have H0 := Lib.hid (alb w (rgc emptyS emptyS))
  have z0 := Lib.hid (heap_alloc_new w (rgc emptyS emptyS))
  obtain ⟨b', off', e1, hlt, g0, g1, g2, g3, g4, g5⟩ := eg_at (hA.later H0.out) (i := 0) rfl
  injection e1 with e1; injection e1 with e2 e3 e4; subst e2; subst e3
  simp only [Nat.zero_mul, Nat.add_zero] at g0 g1 g2 g3 g4 g5
  have r1 : ¬ (((r + 1 : Nat) : Int) = 0) := by omega
  have r2 : ((((r + 1 : Nat) : Int)) == 0) = false := by rw [beq_eq_false_iff_ne]; omega
  have r3 : (((r : Int) + 1) == 0) = false := by rw [beq_eq_false_iff_ne]; omega
  have HS : Hid (x0.Ok) := Lib.hid (ho x0 List.mem_cons_self)
  clear hl hA ho hlt e4
  obtain ⟨o2, ho2⟩ : ∃ o2, o2 = if cap = 1 then off else off + 6 := ⟨_, rfl⟩
  rw [← ho2] at HR
  go_enter Try.func30, Try.ntmps30
  by_cases hcap : cap = 1
  all_goals
    first
      | rw [if_pos hcap] at ho2
      | rw [if_neg hcap] at ho2
    subst ho2
    go_wp2_with (first
      | (go_at_call 33; ((with_reducible refine (span_any x0 HS.out _).mono ?_); rintro e w1 ⟨rfl, b1⟩; have Z4 := Lib.hid (heap_alloc_new w1 (rgc (spF x0) (spT x0))); have Z2 := Lib.hid (keep_bel (alb w1 (rgc (spF x0) (spT x0))) (keep_bel b1 z0.out)); have LG := Lib.hid (show w.heap.size < w1.heap.size by have := b1.size; simp at this; omega); have B1 := Lib.hid (bel_alloc (bel_trans H0.out b1) (rgc (spF x0) (spT x0))); clear b1 g0 g1 g2 g3 g4 g5))
      | fail)
    go_loopw [19] (fun iv wr => ∃ (k : Nat), k ≤ r ∧ iv = .int .i64 k ∧ Hid (wr.heap[w.heap.size]? = some (rgc emptyS emptyS)) ∧ Hid (wr.heap[w1.heap.size]? = some (rgc ((rest.take k).foldl accS (spF x0, spT x0)).1 ((rest.take k).foldl accS (spF x0, spT x0)).2)) ∧ Below w.heap.size w wr ∧ Hid (w1.heap.size < wr.heap.size)) (fun i _ => r - (intOf i).toNat)
    case atStart => exact ⟨0, by omega, rfl, Z2, Z4, B1.out, Lib.hid (by simp)⟩
    case round =>
      obtain ⟨k, hk, rfl, ZA, ZB, hb, HLT⟩ := hrel
      have HB := Lib.hid hb
      clear hb
      by_cases h8 : k < r
      · first
          | (exfalso; omega)
          | skip
        all_goals
         have hk1 : (k : Int) < (r : Int) := by omega
         have hk0 : (0 : Int) ≤ (k : Int) := by omega
         obtain ⟨x, hx⟩ : ∃ x, rest[k]? = some x := ⟨_, List.getElem?_eq_getElem (by rw [HL.out]; omega)⟩
         obtain ⟨b', off', e1, hlt, g0, g1, g2, g3, g4, g5⟩ := eg_at (HR.out _ HB.out) hx
         injection e1 with e1; injection e1 with e2 e3 e4; subst e2; subst e3
         have HNX := Lib.hid (acc_next (spF x0, spT x0) hx)
         have HOX := Lib.hid (HO.out.get hx)
         clear hx hlt e4
         obtain ⟨q, hq⟩ : ∃ q, (rest.take k).foldl accS (spF x0, spT x0) = q := ⟨_, rfl⟩
         rw [hq] at ZB HNX
         clear hq
         go_wp2_with (first
           | (go_at_call 33; ((with_reducible refine (span_any x HOX.out _).mono ?_); rintro e w2 ⟨rfl, b2⟩; have Y7 := Lib.hid (heap_alloc_new w2 (rgc (spF x) (spT x))); have BA := Lib.hid (bel_alloc (bel_trans (alb wr (MO x)) b2) (rgc (spF x) (spT x))); have YA := Lib.hid (keep_bel BA.out ZA.out); have YB := Lib.hid (keep_bel BA.out ZB.out); have LT2 := Lib.hid (show w1.heap.size < w2.heap.size by have := HLT.out; have := b2.size; simp at this; omega); have BB := Lib.hid (bel_trans HB.out BA.out); clear b2 g0 g1 g2 g3 g4 g5))
           | fail)
         refine at_code (fun WN hWN => ?_)
         replace YA := Lib.hid (show WN.drew.heap[w.heap.size]? = some (rgc emptyS emptyS) by rw [hWN]; exact YA.out)
         replace YB := Lib.hid (show WN.drew.heap[w1.heap.size]? = some (rgc q.1 q.2) by rw [hWN]; exact YB.out)
         replace Y7 := Lib.hid (show WN.drew.heap[w2.heap.size]? = some (rgc (spF x) (spT x)) by rw [hWN]; exact Y7.out)
         replace BB := Lib.hid (show Below w.heap.size w WN.drew by rw [hWN]; exact BB.out.drew)
         have WS := Lib.hid (show w1.heap.size < WN.heap.size by rw [hWN]; have := LT2.out; simp; omega)
         clear hWN BA
         obtain ⟨c0, c1, cf0, cf1⟩ := has_two YB.out
         obtain ⟨n0, n1, nf0, nf1⟩ := has_two (W := WN) (show WN.heap[w1.heap.size]? = some (rgc q.1 q.2) from YB.out)
         have HS0 := Lib.hid (show WN.drew.cell? ⟨w2.heap.size, 0, none⟩ = some (.string (spF x)) ∧ WN.drew.cell? ⟨w2.heap.size, 1, none⟩ = some (.string (spT x)) from ⟨(has_two Y7.out).1, (has_two Y7.out).2.1⟩)
         have X7 := Lib.hid (rg_far (g := w1.heap.size) Y7.out (by have := LT2.out; omega) (.string (accS q x).1) (.string (accS q x).2))
         have HS2 := Lib.hid (show _ ∧ _ from ⟨(has_two X7.out).1, (has_two X7.out).2.1⟩)
         have XA := Lib.hid (rg_far (g := w1.heap.size) YA.out (by have := LG.out; omega) (.string (accS q x).1) (.string (accS q x).2))
         have XB := Lib.hid (show ((WN.drew.setCell ⟨w1.heap.size, 0, none⟩ (.string (accS q x).1)).setCell ⟨w1.heap.size, 1, none⟩ (.string (accS q x).2)).heap[w1.heap.size]? = some (rgc ((rest.take (k + 1)).foldl accS (spF x0, spT x0)).1 ((rest.take (k + 1)).foldl accS (spF x0, spT x0)).2) by rw [HNX.out]; exact rg_set YB.out _ _)
         have BX := Lib.hid (Below.setCell (Below.setCell BB.out (p := ⟨w1.heap.size, 0, none⟩) (Nat.le_of_lt LG.out) (.string (accS q x).1)) (p := ⟨w1.heap.size, 1, none⟩) (Nat.le_of_lt LG.out) (.string (accS q x).2))
         clear ZA ZB YA YB Y7 X7 HNX
         simp only [accS] at HS2 XA XB BX
         refine wp_region_held_drew (S := (fun V : World => V.cell? ⟨w2.heap.size, 0, none⟩ = some (.string (spF x)) ∧ V.cell? ⟨w2.heap.size, 1, none⟩ = some (.string (spT x)))) (by kernel_rfl) ?_ (fun hHeld => ?_)
         · exact HS0.out
         have HHeld := Lib.hid hHeld; clear hHeld
         refine wpAnyH_take (i := 0) (oi := { dst := some 25, op := Op.fieldAddr 24 (Operand.tmp 4) 0, type := 0, pos := "buffer.go:104", after := #[], guard := none }) (v := ?_) rfl (by kernel_rfl) (by kernel_rfl) (by kernel_rfl) (fun _ _ _ h => h) (Or.inl ⟨by rfl, ?_⟩) HHeld.out ?_
         rotate_left
         · intro w hSw; clear hSw; go_simp; try with_reducible rfl
         try simp only [Act.put, List.setIfInBounds_toArray, List.set_cons_zero, List.set_cons_succ]
         refine wpAnyH_take (i := 2) (oi := { dst := some 27, op := Op.fieldAddr 24 (Operand.tmp 7) 0, type := 0, pos := "buffer.go:104", after := #[], guard := none }) (v := ?_) rfl (by kernel_rfl) (by kernel_rfl) (by kernel_rfl) (fun _ _ _ h => h) (Or.inl ⟨by rfl, ?_⟩) HHeld.out ?_
         rotate_left
         · intro w hSw; clear hSw; go_simp; try with_reducible rfl
         try simp only [Act.put, List.setIfInBounds_toArray, List.set_cons_zero, List.set_cons_succ]
         refine wpAnyH_take (i := 3) (oi := { dst := some 28, op := Op.load 9 (Operand.tmp 27), type := 9, pos := "buffer.go:104", after := #[{ on := 2, ground := Ground.data }], guard := none }) (v := (.string (spF x) : Value)) rfl (by kernel_rfl) (by kernel_rfl) (by kernel_rfl) (fun _ _ _ h => h) (Or.inl ⟨by rfl, ?_⟩) HHeld.out ?_
         · intro V hV; have hc0 := hV.1; clear hV; go_simp
         try simp only [Act.put, List.setIfInBounds_toArray, List.set_cons_zero, List.set_cons_succ]
         refine wpAnyH_take (i := 5) (oi := { dst := some 30, op := Op.fieldAddr 24 (Operand.tmp 4) 1, type := 0, pos := "buffer.go:104", after := #[], guard := none }) (v := ?_) rfl (by kernel_rfl) (by kernel_rfl) (by kernel_rfl) (fun _ _ _ h => h) (Or.inl ⟨by rfl, ?_⟩) HHeld.out ?_
         rotate_left
         · intro w hSw; clear hSw; go_simp; try with_reducible rfl
         try simp only [Act.put, List.setIfInBounds_toArray, List.set_cons_zero, List.set_cons_succ]
         refine wpAnyH_take (i := 7) (oi := { dst := some 32, op := Op.fieldAddr 24 (Operand.tmp 7) 1, type := 0, pos := "buffer.go:104", after := #[], guard := none }) (v := ?_) rfl (by kernel_rfl) (by kernel_rfl) (by kernel_rfl) (fun _ _ _ h => h) (Or.inl ⟨by rfl, ?_⟩) HHeld.out ?_
         rotate_left
         · intro w hSw; clear hSw; go_simp; try with_reducible rfl
         try simp only [Act.put, List.setIfInBounds_toArray, List.set_cons_zero, List.set_cons_succ]
         refine wpAnyH_take (i := 8) (oi := { dst := some 33, op := Op.load 9 (Operand.tmp 32), type := 9, pos := "buffer.go:104", after := #[{ on := 7, ground := Ground.data }], guard := none }) (v := (.string (spT x) : Value)) rfl (by kernel_rfl) (by kernel_rfl) (by kernel_rfl) (fun _ _ _ h => h) (Or.inl ⟨by rfl, ?_⟩) HHeld.out ?_
         · intro V hV; have hc0 := hV.2; clear hV; go_simp
         try simp only [Act.put, List.setIfInBounds_toArray, List.set_cons_zero, List.set_cons_succ]
         refine wpAnyH_ready (rs := [1, 6]) (by kernel_rfl) (by simp) ?_
         refine AllReadyH.cons (o := { dst := some 26, op := Op.load 9 (Operand.tmp 25), type := 9, pos := "buffer.go:104", after := #[{ on := 0, ground := Ground.data }], guard := none }) rfl (fun K hK => ?_) (AllReadyH.cons (o := { dst := some 31, op := Op.load 9 (Operand.tmp 30), type := 9, pos := "buffer.go:104", after := #[{ on := 5, ground := Ground.data }], guard := none }) rfl (fun K hK => ?_) AllReadyH.nil)
         · go_simp
           refine hK.out _ _ ?_ (fun hHeld => ?_)
           · exact HHeld.out
           clear HHeld; have HHeld := Lib.hid hHeld; clear hHeld
           clear hK K
           try simp only [Act.put, List.setIfInBounds_toArray, List.set_cons_zero, List.set_cons_succ]
           refine wpAnyH_take (i := 4) (oi := { dst := some 29, op := Op.call { callee := Callee.builtin Builtin.min, args := #[Operand.tmp 26, Operand.tmp 28], argTypes := #[9, 9] }, type := 9, pos := "buffer.go:104", after := #[{ on := 1, ground := Ground.data }, { on := 3, ground := Ground.data }], guard := none }) (v := ?_) rfl (by kernel_rfl) (by kernel_rfl) (by kernel_rfl) (fun _ _ _ h => h) (Or.inl ⟨by rfl, ?_⟩) HHeld.out ?_
           rotate_left
           · intro w hSw; clear hSw; go_simp; try with_reducible rfl
           try simp only [Act.put, List.setIfInBounds_toArray, List.set_cons_zero, List.set_cons_succ]
           refine wpAnyH_ready (rs := [6]) (by kernel_rfl) (by simp) ?_
           refine AllReadyH.cons (o := { dst := some 31, op := Op.load 9 (Operand.tmp 30), type := 9, pos := "buffer.go:104", after := #[{ on := 5, ground := Ground.data }], guard := none }) rfl (fun K hK => ?_) AllReadyH.nil
           go_simp
           refine hK.out _ _ ?_ (fun hHeld => ?_)
           · exact HHeld.out
           clear HHeld; have HHeld := Lib.hid hHeld; clear hHeld
           clear hK K
           try simp only [Act.put, List.setIfInBounds_toArray, List.set_cons_zero, List.set_cons_succ]
           refine wpAnyH_ready (rs := [9]) (by kernel_rfl) (by simp) ?_
           refine AllReadyH.cons (o := { dst := some 34, op := Op.call { callee := Callee.value (Operand.func 38), args := #[Operand.tmp 31, Operand.tmp 33], argTypes := #[9, 9] }, type := 9, pos := "buffer.go:104", after := #[{ on := 6, ground := Ground.data }, { on := 8, ground := Ground.data }], guard := none }) rfl (fun K hK => ?_) AllReadyH.nil
           go_simp
           go_at_call 38; ((with_reducible refine (last_any _ _ _).mono ?_); rintro e v9 ⟨rfl, rfl⟩)
           refine hK.out _ _ ?_ (fun hHeld => ?_)
           · exact HHeld.out
           clear HHeld; have HHeld := Lib.hid hHeld; clear hHeld
           clear hK K
           try simp only [Act.put, List.setIfInBounds_toArray, List.set_cons_zero, List.set_cons_succ]
           refine wpAnyH_take (i := 10) (oi := { dst := some 35, op := Op.build 24 #[(0, Operand.tmp 29), (1, Operand.tmp 34)], type := 24, pos := "buffer.go:104", after := #[{ on := 4, ground := Ground.data }, { on := 9, ground := Ground.data }], guard := none }) (v := ?_) rfl (by kernel_rfl) (by kernel_rfl) (by kernel_rfl) (fun _ _ _ h => h) (Or.inl ⟨by rfl, ?_⟩) HHeld.out ?_
           rotate_left
           · intro w hSw; clear hSw; go_simp; try with_reducible rfl
           try simp only [Act.put, List.setIfInBounds_toArray, List.set_cons_zero, List.set_cons_succ]
           refine wpAnyH_ready (rs := [11]) (by kernel_rfl) (by simp) ?_
           refine AllReadyH.cons (o := { dst := none, op := Op.store 24 (Operand.tmp 4) (Operand.tmp 35), type := 0, pos := "buffer.go:104", after := #[{ on := 10, ground := Ground.data }, { on := 9, ground := Ground.chain }, { on := 0, ground := Ground.phase }, { on := 1, ground := Ground.phase }, { on := 2, ground := Ground.phase }, { on := 3, ground := Ground.phase }, { on := 4, ground := Ground.phase }, { on := 5, ground := Ground.phase }, { on := 6, ground := Ground.phase }, { on := 7, ground := Ground.phase }, { on := 8, ground := Ground.phase }, { on := 9, ground := Ground.phase }, { on := 10, ground := Ground.phase }], guard := none }) rfl (fun K hK => ?_) AllReadyH.nil
           go_simp
           refine hK.out _ _ ?_ (fun hHeld => ?_)
           · exact HS2.out
           clear HHeld; have HHeld := Lib.hid hHeld; clear hHeld
           clear hK K
           try simp only [Act.put, List.setIfInBounds_toArray, List.set_cons_zero, List.set_cons_succ]
           refine wpAnyH_done (by kernel_rfl) ?_ _
           go_wp2
           exact ⟨⟨k + 1, by omega, by simp, XA, XB, BX.out, Lib.hid (by simpa using WS.out)⟩, by simp [intOf]; omega⟩
         · go_simp
           refine hK.out _ _ ?_ (fun hHeld => ?_)
           · exact HHeld.out
           clear HHeld; have HHeld := Lib.hid hHeld; clear hHeld
           clear hK K
           try simp only [Act.put, List.setIfInBounds_toArray, List.set_cons_zero, List.set_cons_succ]
           refine wpAnyH_ready (rs := [1, 9]) (by kernel_rfl) (by simp) ?_
           refine AllReadyH.cons (o := { dst := some 26, op := Op.load 9 (Operand.tmp 25), type := 9, pos := "buffer.go:104", after := #[{ on := 0, ground := Ground.data }], guard := none }) rfl (fun K hK => ?_) (AllReadyH.cons (o := { dst := some 34, op := Op.call { callee := Callee.value (Operand.func 38), args := #[Operand.tmp 31, Operand.tmp 33], argTypes := #[9, 9] }, type := 9, pos := "buffer.go:104", after := #[{ on := 6, ground := Ground.data }, { on := 8, ground := Ground.data }], guard := none }) rfl (fun K hK => ?_) AllReadyH.nil)
           · go_simp
             refine hK.out _ _ ?_ (fun hHeld => ?_)
             · exact HHeld.out
             clear HHeld; have HHeld := Lib.hid hHeld; clear hHeld
             clear hK K
             try simp only [Act.put, List.setIfInBounds_toArray, List.set_cons_zero, List.set_cons_succ]
             refine wpAnyH_take (i := 4) (oi := { dst := some 29, op := Op.call { callee := Callee.builtin Builtin.min, args := #[Operand.tmp 26, Operand.tmp 28], argTypes := #[9, 9] }, type := 9, pos := "buffer.go:104", after := #[{ on := 1, ground := Ground.data }, { on := 3, ground := Ground.data }], guard := none }) (v := ?_) rfl (by kernel_rfl) (by kernel_rfl) (by kernel_rfl) (fun _ _ _ h => h) (Or.inl ⟨by rfl, ?_⟩) HHeld.out ?_
             rotate_left
             · intro w hSw; clear hSw; go_simp; try with_reducible rfl
             try simp only [Act.put, List.setIfInBounds_toArray, List.set_cons_zero, List.set_cons_succ]
             refine wpAnyH_ready (rs := [9]) (by kernel_rfl) (by simp) ?_
             refine AllReadyH.cons (o := { dst := some 34, op := Op.call { callee := Callee.value (Operand.func 38), args := #[Operand.tmp 31, Operand.tmp 33], argTypes := #[9, 9] }, type := 9, pos := "buffer.go:104", after := #[{ on := 6, ground := Ground.data }, { on := 8, ground := Ground.data }], guard := none }) rfl (fun K hK => ?_) AllReadyH.nil
             go_simp
             go_at_call 38; ((with_reducible refine (last_any _ _ _).mono ?_); rintro e v9 ⟨rfl, rfl⟩)
             refine hK.out _ _ ?_ (fun hHeld => ?_)
             · exact HHeld.out
             clear HHeld; have HHeld := Lib.hid hHeld; clear hHeld
             clear hK K
             try simp only [Act.put, List.setIfInBounds_toArray, List.set_cons_zero, List.set_cons_succ]
             refine wpAnyH_take (i := 10) (oi := { dst := some 35, op := Op.build 24 #[(0, Operand.tmp 29), (1, Operand.tmp 34)], type := 24, pos := "buffer.go:104", after := #[{ on := 4, ground := Ground.data }, { on := 9, ground := Ground.data }], guard := none }) (v := ?_) rfl (by kernel_rfl) (by kernel_rfl) (by kernel_rfl) (fun _ _ _ h => h) (Or.inl ⟨by rfl, ?_⟩) HHeld.out ?_
             rotate_left
             · intro w hSw; clear hSw; go_simp; try with_reducible rfl
             try simp only [Act.put, List.setIfInBounds_toArray, List.set_cons_zero, List.set_cons_succ]
             refine wpAnyH_ready (rs := [11]) (by kernel_rfl) (by simp) ?_
             refine AllReadyH.cons (o := { dst := none, op := Op.store 24 (Operand.tmp 4) (Operand.tmp 35), type := 0, pos := "buffer.go:104", after := #[{ on := 10, ground := Ground.data }, { on := 9, ground := Ground.chain }, { on := 0, ground := Ground.phase }, { on := 1, ground := Ground.phase }, { on := 2, ground := Ground.phase }, { on := 3, ground := Ground.phase }, { on := 4, ground := Ground.phase }, { on := 5, ground := Ground.phase }, { on := 6, ground := Ground.phase }, { on := 7, ground := Ground.phase }, { on := 8, ground := Ground.phase }, { on := 9, ground := Ground.phase }, { on := 10, ground := Ground.phase }], guard := none }) rfl (fun K hK => ?_) AllReadyH.nil
             go_simp
             refine hK.out _ _ ?_ (fun hHeld => ?_)
             · exact HS2.out
             clear HHeld; have HHeld := Lib.hid hHeld; clear hHeld
             clear hK K
             try simp only [Act.put, List.setIfInBounds_toArray, List.set_cons_zero, List.set_cons_succ]
             refine wpAnyH_done (by kernel_rfl) ?_ _
             go_wp2
             exact ⟨⟨k + 1, by omega, by simp, XA, XB, BX.out, Lib.hid (by simpa using WS.out)⟩, by simp [intOf]; omega⟩
           · go_simp
             go_at_call 38; ((with_reducible refine (last_any _ _ _).mono ?_); rintro e v9 ⟨rfl, rfl⟩)
             refine hK.out _ _ ?_ (fun hHeld => ?_)
             · exact HHeld.out
             clear HHeld; have HHeld := Lib.hid hHeld; clear hHeld
             clear hK K
             try simp only [Act.put, List.setIfInBounds_toArray, List.set_cons_zero, List.set_cons_succ]
             refine wpAnyH_ready (rs := [1]) (by kernel_rfl) (by simp) ?_
             refine AllReadyH.cons (o := { dst := some 26, op := Op.load 9 (Operand.tmp 25), type := 9, pos := "buffer.go:104", after := #[{ on := 0, ground := Ground.data }], guard := none }) rfl (fun K hK => ?_) AllReadyH.nil
             go_simp
             refine hK.out _ _ ?_ (fun hHeld => ?_)
             · exact HHeld.out
             clear HHeld; have HHeld := Lib.hid hHeld; clear hHeld
             clear hK K
             try simp only [Act.put, List.setIfInBounds_toArray, List.set_cons_zero, List.set_cons_succ]
             refine wpAnyH_take (i := 4) (oi := { dst := some 29, op := Op.call { callee := Callee.builtin Builtin.min, args := #[Operand.tmp 26, Operand.tmp 28], argTypes := #[9, 9] }, type := 9, pos := "buffer.go:104", after := #[{ on := 1, ground := Ground.data }, { on := 3, ground := Ground.data }], guard := none }) (v := ?_) rfl (by kernel_rfl) (by kernel_rfl) (by kernel_rfl) (fun _ _ _ h => h) (Or.inl ⟨by rfl, ?_⟩) HHeld.out ?_
             rotate_left
             · intro w hSw; clear hSw; go_simp; try with_reducible rfl
             try simp only [Act.put, List.setIfInBounds_toArray, List.set_cons_zero, List.set_cons_succ]
             refine wpAnyH_take (i := 10) (oi := { dst := some 35, op := Op.build 24 #[(0, Operand.tmp 29), (1, Operand.tmp 34)], type := 24, pos := "buffer.go:104", after := #[{ on := 4, ground := Ground.data }, { on := 9, ground := Ground.data }], guard := none }) (v := ?_) rfl (by kernel_rfl) (by kernel_rfl) (by kernel_rfl) (fun _ _ _ h => h) (Or.inl ⟨by rfl, ?_⟩) HHeld.out ?_
             rotate_left
             · intro w hSw; clear hSw; go_simp; try with_reducible rfl
             try simp only [Act.put, List.setIfInBounds_toArray, List.set_cons_zero, List.set_cons_succ]
             refine wpAnyH_ready (rs := [11]) (by kernel_rfl) (by simp) ?_
             refine AllReadyH.cons (o := { dst := none, op := Op.store 24 (Operand.tmp 4) (Operand.tmp 35), type := 0, pos := "buffer.go:104", after := #[{ on := 10, ground := Ground.data }, { on := 9, ground := Ground.chain }, { on := 0, ground := Ground.phase }, { on := 1, ground := Ground.phase }, { on := 2, ground := Ground.phase }, { on := 3, ground := Ground.phase }, { on := 4, ground := Ground.phase }, { on := 5, ground := Ground.phase }, { on := 6, ground := Ground.phase }, { on := 7, ground := Ground.phase }, { on := 8, ground := Ground.phase }, { on := 9, ground := Ground.phase }, { on := 10, ground := Ground.phase }], guard := none }) rfl (fun K hK => ?_) AllReadyH.nil
             go_simp
             refine hK.out _ _ ?_ (fun hHeld => ?_)
             · exact HS2.out
             clear HHeld; have HHeld := Lib.hid hHeld; clear hHeld
             clear hK K
             try simp only [Act.put, List.setIfInBounds_toArray, List.set_cons_zero, List.set_cons_succ]
             refine wpAnyH_done (by kernel_rfl) ?_ _
             go_wp2
             exact ⟨⟨k + 1, by omega, by simp, XA, XB, BX.out, Lib.hid (by simpa using WS.out)⟩, by simp [intOf]; omega⟩
      · have hk1 : ¬ (k : Int) < (r : Int) := by omega
        have e : rest.take k = rest := List.take_of_length_le (by rw [HL.out]; omega)
        rw [e] at ZB
        have HF := Lib.hid (show spanL (x0 :: rest) = rest.foldl accS (spF x0, spT x0) from rfl)
        obtain ⟨q, hq⟩ : ∃ q, rest.foldl accS (spF x0, spT x0) = q := ⟨_, rfl⟩
        rw [hq] at ZB HF
        clear hq e
        obtain ⟨c0, c1, -, -⟩ := has_two ZB.out
        obtain ⟨d0, d1, f0, f1⟩ := has_two ZA.out
        go_wp2
        refine bodyPost_ret (v := BV q true) (by simp [results, Try.results30, go_sem, d0, d1, f0, f1]) rfl ⟨by rw [HF.out], ?_⟩
        exact Below.setCell (Below.setCell HB.out (p := ⟨_, _, none⟩) (Nat.le_refl _) _) (p := ⟨_, _, none⟩) (Nat.le_refl _) _
end Go.Proofs.Ytdbnkeihnoglcaa
