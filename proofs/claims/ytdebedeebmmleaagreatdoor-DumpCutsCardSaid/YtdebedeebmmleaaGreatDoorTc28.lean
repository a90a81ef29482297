/- Texts of the proof, one behind the other. -/
import Derived.Test.YtdebedeebmmleaaGreatDoorTc27
import Derived.Test.YtdebedeebmmleaaGreatDoorTc26
set_option linter.unusedVariables false
set_option linter.unusedSimpArgs false
namespace Go.Proofs.YtdebedeebmmleaaGreatDoor
open Go.RowKit Go.Maps
def rdsz (w : World) (g : Nat) : Nat := match w.cell? ⟨g, 0, none⟩ with
  | some (.string t) => t.size
  | _ => 0
theorem RB.sz {nV aV : Value} {w : World} {g : Nat} {t : ByteArray} {ln : Int} (h : RB nV aV w g t ln) : rdsz w g = t.size := by unfold rdsz; rw [h.c0]
theorem nodes_long {ys : List NdV} {i : Nat} {y : NdV} (h : ys[i]? = some y) : (nodeL i y).length ≤ (nodesL ys).length := by
  unfold nodesL
  have hm : (y, i) ∈ ys.zipIdx := List.mem_of_getElem? (i := i) (by rw [List.getElem?_zipIdx, h]; simp)
  exact fm_mem (fun x : NdV × Nat => nodeL x.2 x.1) hm
theorem node_long {i : Nat} {y : NdV} (h : TNd y) : y.ms.length ≤ (nodeL i y).length ∧ y.bl.length ≤ (nodeL i y).length := by
  unfold nodeL
  rcases h with ⟨h0, h1, h2, h3, h4⟩ | ⟨h0, h1, h2, h3⟩ | ⟨h0, h1, h2⟩
  · rw [h3, h4]; simp
  · rw [h3, if_pos h0]
    have := fm_long (fun l => lineL (bWd l)) (fun l => line_ne _) y.bl
    rw [List.length_append]
    exact ⟨Nat.zero_le _, by omega⟩
  · rw [h1, if_neg (by omega), if_pos h0]
    have := fm_long (fun m => lineL (mWd m)) (fun l => line_ne _) y.ms
    rw [List.length_append]
    exact ⟨by omega, Nat.zero_le _⟩
theorem DInv.few {n z : Nat} {ys : List NdV} (h : DInv n z ys) {m : Nat} (hm : (nodesL ys).length ≤ m) : ∀ y ∈ ys, y.ms.length ≤ m ∧ y.bl.length ≤ m := fun y hy => by
  obtain ⟨i, hi⟩ := List.mem_iff_getElem?.1 hy
  have h1 := nodes_long hi
  have h2 := node_long (i := i) (h.ok.2 y hy)
  omega
theorem next_len {t u : ByteArray} {ws : List ByteArray} (h : nextF t = some (ws, u)) : ws.length ≤ t.size + 1 := by
  have h1 := congrArg List.length (next_list h)
  have h2 := line_long ws
  rw [ba_len, List.length_append] at h1
  omega
theorem ns_zero {w : World} {nb n : Nat} (O : Nat → Nat × Nat) (h : NB w nb (zeroC n)) : NS w w.heap.size nb O (zeroC n) (zeroN n) := by
  refine ⟨h, h.lt, by unfold zeroC zeroN; rw [List.length_replicate, List.length_replicate], fun i x y hx hy => ?_⟩
  have e1 := (List.mem_replicate.1 (List.mem_of_getElem? hx)).2
  have e2 := (List.mem_replicate.1 (List.mem_of_getElem? hy)).2
  subst e1 e2
  have nil : ∀ {α : Type} (E : RE α) (f : Nat × Nat), OwR E w w.heap.size O f ⟨none, 0, 0⟩ [] := fun E f => ⟨rfl, .inl ⟨rfl, rfl⟩, fun b hb => by cases hb⟩
  exact ⟨rfl, nil ES _, nil EI _, nil EM _, [], nil EH _, rfl, fun i h l hh hl => by cases hh⟩
/-- What a text's parse answers. -/
def DPar (r : Except (Int × Int) (List NdV)) (w : World) (e : Ending) (w' : World) : Prop :=
  (match r with
  | .error x => e = .returned (.tuple #[.agg #[.slice none 0 0], .int .i64 x.1, .int .i64 x.2])
  | .ok ys => ∃ nb lo O ns, e = .returned (.tuple #[.agg #[.slice (some ⟨nb, 0, none⟩) ys.length ys.length], .int .i64 0, .int .i64 0]) ∧ w.heap.size ≤ nb ∧ NS w' lo nb O ns ys) ∧ Below w.heap.size w w'
/-- What lies at a mark: the answers' boxes. -/
structure Bx (w V : World) : Prop where
  t : V.heap[w.heap.size]? = some (.cells #[.slice none 0 0] 24 (0, 0))
  l : V.heap[w.heap.size + 1]? = some (.cells #[.int .i64 0] 3 (0, 0))
  e : V.heap[w.heap.size + 2]? = some (.cells #[.int .i64 0] 27 (0, 0))
  b : Below w.heap.size w V
theorem Bx.on {w V V2 : World} (h : Bx w V) (b : Below (w.heap.size + 3) V V2) : Bx w V2 :=
  ⟨(b.block _ (by omega)).trans h.t, (b.block _ (by omega)).trans h.l, (b.block _ (by omega)).trans h.e, h.b.trans (b.mono (by omega))⟩
set_option maxHeartbeats 2000000 in
set_option maxRecDepth 100000 in
theorem parse_any (t : ByteArray) (ht : t.size ≤ 890000) (w : World) (h : GW w) :
    Calls Tryz.prog 15 #[.string t] w (DPar (dparF t) w) := by
  have hmf : ∀ (fn : Fn) (first cap : Array Value) (w : World), (Instr.makeFunc fn first cap).run Tryz.prog w = .ok (.func fn first cap) w := fun _ _ _ _ => rfl
  have k20 : ¬ (4194304 : Int) < (t.size : Int) := by omega
  obtain ⟨W1, hW1⟩ : ∃ W1, W1 = (((w.alloc (.cells #[.slice none 0 0] 24)).alloc (.cells #[.int .i64 0] 3)).alloc (.cells #[.int .i64 0] 27)).alloc (.cells #[.string t, .int .i64 0, .slice none 0 0, .int .i64 0] 66) := ⟨_, rfl⟩
  have HB1 := Lib.hid (show Below w.heap.size w W1 by rw [hW1]; exact bel_alloc (bel_alloc (bel_alloc (alb w _) _) _) _)
  have BX1 := Lib.hid (show Bx w W1 from ⟨by rw [hW1]; exact keep_bel (alb _ _) (keep_bel (alb _ _) (keep_bel (alb _ _) (heap_alloc_new w _))), by
    rw [hW1]; refine keep_bel (alb _ _) (keep_bel (alb _ _) ?_)
    have := heap_alloc_new (w.alloc (.cells #[.slice none 0 0] 24)) (.cells #[.int .i64 0] 3)
    simpa using this, by
    rw [hW1]; refine keep_bel (alb _ _) ?_
    have := heap_alloc_new ((w.alloc (.cells #[.slice none 0 0] 24)).alloc (.cells #[.int .i64 0] 3)) (.cells #[.int .i64 0] 27)
    simpa using this, HB1.out⟩)
  have R1 := Lib.hid (show RB (.slice none 0 0) (.int .i64 0) W1 (w.heap.size + 3) t 0 by
    rw [hW1]; unfold RB
    have := heap_alloc_new (((w.alloc (.cells #[.slice none 0 0] 24)).alloc (.cells #[.int .i64 0] 3)).alloc (.cells #[.int .i64 0] 27)) (.cells #[.string t, .int .i64 0, .slice none 0 0, .int .i64 0] 66)
    simpa using this)
  have G1 := Lib.hid (show GB (w.heap.size + 3) W1 from ⟨Nat.le_of_lt R1.out.lt, fun W b => h.later (HB1.out.trans (b.mono (by omega)))⟩)
  obtain ⟨r, hr⟩ : ∃ r, dparF t = r := ⟨_, rfl⟩
  rw [hr]
  unfold dparF at hr
  have HT := Lib.hid ht
  clear h
  cases hn : nextF t with
  | none =>
    have HD := Lib.hid (head_none R1.out G1.out (Nat.le_refl _) (by omega) hn)
    rw [hn] at hr
    simp only at hr
    have HE : Hid (r = .error (1, 5)) := Lib.hid hr.symm
    clear hr hn ht
    go_enter_defers Tryz.func15, Tryz.ntmps15
    go_upto_region 5 with fail
    rw [← hW1]
    clear hW1
    go_wp2_with (first
      | (go_at_call 31; ((with_reducible refine HD.out.mono ?_); rintro e w2 ⟨rfl, c2⟩; have BX2 := Lib.hid (BX1.out.on (c2.below (fun x e => by omega) G1.out.le)); clear c2))
      | fail)
    refine leaves_cons (f := 30) (args := #[.pointer (some ⟨w.heap.size, 0, none⟩), .pointer (some ⟨w.heap.size + 1, 0, none⟩), .pointer (some ⟨w.heap.size + 2, 0, none⟩)]) (by simp) (by simp [go_sem]) ?_
    refine (catch_fault w.heap.size (w.heap.size + 1) (w.heap.size + 2) _ _ (.slice none 0 0) (.int .i64 0) (.int .i64 0) w2 BX2.out.t BX2.out.l BX2.out.e (by omega) (by omega) (by omega)).mono ?_
    rintro e u' w9 ⟨rfl, rfl, x9, l9, e9, c9⟩
    have B9 := Lib.hid (c9.below (lo := w.heap.size) (fun x e => by omega) BX2.out.b.size)
    have k0 : w9.cell? ⟨w.heap.size, 0, none⟩ = some (.slice none 0 0) := cellh x9 rfl
    have kl := cellh l9 (i := 0) (v := .int .i64 (1)) rfl
    have ke : w9.cell? ⟨w.heap.size + 1 + 1, 0, none⟩ = some (.int .i64 (5)) := cellh e9 (i := 0) (v := .int .i64 (5)) rfl
    clear x9 l9 e9 c9
    have HK := Lib.hid (show DPar r w (.returned (.tuple #[.agg #[.slice none 0 0], .int .i64 (1), .int .i64 (5)])) w9 from ⟨by rw [HE.out], BX2.out.b.trans B9.out⟩)
    simp [Leaves, settle, results, Tryz.results15, go_sem, FP, k0, kl, ke]
    exact HK.out
  | some q =>
    obtain ⟨ws, u⟩ := q
    have HD := Lib.hid (head_any R1.out G1.out (Nat.le_refl _) (by omega) hn)
    rw [hn] at hr
    simp only at hr
    cases hh : headF ws with
    | error er =>
      rw [hh] at HD hr
      simp only at hr
      have HE : Hid (r = .error (1, er)) := Lib.hid hr.symm
      clear hr hn hh ht
      go_enter_defers Tryz.func15, Tryz.ntmps15
      go_upto_region 5 with fail
      rw [← hW1]
      clear hW1
      go_wp2_with (first
        | (go_at_call 31; ((with_reducible refine HD.out.mono ?_); rintro e w2 ⟨rfl, c2⟩; have BX2 := Lib.hid (BX1.out.on (c2.below (fun x e => by omega) G1.out.le)); clear c2))
        | fail)
      refine leaves_cons (f := 30) (args := #[.pointer (some ⟨w.heap.size, 0, none⟩), .pointer (some ⟨w.heap.size + 1, 0, none⟩), .pointer (some ⟨w.heap.size + 2, 0, none⟩)]) (by simp) (by simp [go_sem]) ?_
      refine (catch_fault w.heap.size (w.heap.size + 1) (w.heap.size + 2) _ _ (.slice none 0 0) (.int .i64 0) (.int .i64 0) w2 BX2.out.t BX2.out.l BX2.out.e (by omega) (by omega) (by omega)).mono ?_
      rintro e u' w9 ⟨rfl, rfl, x9, l9, e9, c9⟩
      have B9 := Lib.hid (c9.below (lo := w.heap.size) (fun x e => by omega) BX2.out.b.size)
      have k0 : w9.cell? ⟨w.heap.size, 0, none⟩ = some (.slice none 0 0) := cellh x9 rfl
      have kl := cellh l9 (i := 0) (v := .int .i64 (1)) rfl
      have ke : w9.cell? ⟨w.heap.size + 1 + 1, 0, none⟩ = some (.int .i64 (er)) := cellh e9 (i := 0) (v := .int .i64 (er)) rfl
      clear x9 l9 e9 c9
      have HK := Lib.hid (show DPar r w (.returned (.tuple #[.agg #[.slice none 0 0], .int .i64 (1), .int .i64 (er)])) w9 from ⟨by rw [HE.out], BX2.out.b.trans B9.out⟩)
      simp [Leaves, settle, results, Tryz.results15, go_sem, FP, k0, kl, ke]
      exact HK.out
    | ok n =>
      rw [hh] at HD hr
      simp only at hr
      have HN := Lib.hid (show n ≤ 4097 ∧ u.size < t.size from ⟨(head_back hh).2, (next_facts hn).2.1⟩)
      have HR := Lib.hid hr
      clear hr hn hh ht
      go_enter_defers Tryz.func15, Tryz.ntmps15
      go_upto_region 5 with fail
      rw [← hW1]
      clear hW1
      go_upto_region 6 with (first
        | (go_at_call 31; ((with_reducible refine HD.out.mono ?_); rintro e w2 ⟨⟨rfl, nb, hnb, hNB, hRB⟩, c2⟩; have B2 := Lib.hid (c2.below (lo := w.heap.size + 3) (fun x e => by omega) G1.out.le); have HNB := Lib.hid (And.intro (show w.heap.size + 3 < nb by have := R1.out.lt; omega) hNB); have R2 := Lib.hid hRB; clear c2 hnb hNB hRB))
        | fail)
      have HST := Lib.hid (show BSt (w.heap.size + 3) w2.heap.size nb (w.heap.size + 3) n 0 u 1 (fun _ => (0, 0)) (zeroC n) (zeroN n) w2 from ⟨R2.out, ns_zero _ HNB.out.2, G1.out.bel B2.out, ⟨by omega, by have := HNB.out.1; omega, R2.out.lt, by have := HNB.out.1; omega, HN.out.1, by omega, by unfold zeroC; rw [List.length_replicate]⟩, Nat.le_refl _, fun i y _ hy => (DInv.start n).new i y (by rename_i q; exact q) hy⟩)
      go_loopw [] (fun wr => ∃ (f z : Nat) (u2 : ByteArray) (l : Int) (ys : List NdV) (ns : List NC) (O : Nat → Nat × Nat), Hid (bodyG n f z ys u2 l = r) ∧ Hid (BSt (w.heap.size + 3) w2.heap.size nb (w.heap.size + 3) n z u2 l O ns ys wr) ∧ Hid (DInv n z ys ∧ (nodesL ys).length + u2.size ≤ 890000 ∧ u2.size < f ∧ 0 ≤ l ∧ l + u2.size ≤ 4000000) ∧ Bx w wr) (fun wr => rdsz wr (w.heap.size + 3))
      case atStart => exact ⟨u.size + 1, 0, u, 1, zeroN n, zeroC n, _, HR, HST, Lib.hid ⟨DInv.start n, by rw [nodes_zero]; have := HN.out; have := HT.out; simp; omega, by omega, by omega, by have := HN.out; have := HT.out; omega⟩, BX1.out.on B2.out⟩
      case round =>
        obtain ⟨f, z, u2, l, ys, ns, O, HF, HS, HI, hbx⟩ := hrel
        have BX3 := Lib.hid hbx
        clear hbx
        obtain ⟨f, rfl⟩ : ∃ f', f = f' + 1 := ⟨f - 1, by have := HI.out; omega⟩
        have hF := HF.out
        unfold bodyG at hF
        by_cases hu : u2.data.toList = []
        · rw [if_pos hu] at hF
          have HE : Hid (r = .ok ys) := Lib.hid hF.symm
          obtain rfl : u2 = ⟨#[]⟩ := ba_inj hu
          have c0 := HS.out.rb.c0
          have c2 := HS.out.rb.c2
          have k0 := cellh BX3.out.t (i := 0) (v := .slice none 0 0) rfl
          have kl := cellh BX3.out.l (i := 0) (v := .int .i64 0) rfl
          have ke : wr.cell? ⟨w.heap.size + 1 + 1, 0, none⟩ = some (.int .i64 0) := cellh BX3.out.e (i := 0) (v := .int .i64 0) rfl
          have f0 : wr.frozen? ⟨w.heap.size, 0, none⟩ = false := froh BX3.out.t
          have fl : wr.frozen? ⟨w.heap.size + 1, 0, none⟩ = false := froh BX3.out.l
          have fe : wr.frozen? ⟨w.heap.size + 1 + 1, 0, none⟩ = false := froh BX3.out.e
          clear hF hu
          go_wp2
          clear c0 c2 k0 kl ke f0 fl fe
          obtain ⟨W7, hW7⟩ : ∃ W7, W7 = ((wr.setCell ⟨w.heap.size, 0, none⟩ (.slice (some ⟨nb, 0, none⟩) n n)).setCell ⟨w.heap.size + 1, 0, none⟩ (.int .i64 0)).setCell ⟨w.heap.size + 1 + 1, 0, none⟩ (.int .i64 0) := ⟨_, rfl⟩
          have C7 := Lib.hid (show Chg (fun x => x = w.heap.size ∨ x = w.heap.size + 1 ∨ x = w.heap.size + 1 + 1) wr W7 by
            rw [hW7]
            exact ((Chg.set _ _ (.inl rfl)).then (Chg.set _ _ (.inr (.inl rfl)))).then (Chg.set _ _ (.inr (.inr rfl))))
          have t7 : W7.cell? ⟨w.heap.size, 0, none⟩ = some (.slice (some ⟨nb, 0, none⟩) n n) := by
            rw [hW7]
            have z0 := hset (i := 0) BX3.out.t (.slice (some ⟨nb, 0, none⟩) n n)
            have z1 := (Chg.set (D := fun x => x = w.heap.size + 1) (wr.setCell ⟨w.heap.size, 0, none⟩ (.slice (some ⟨nb, 0, none⟩) n n)) (l := w.heap.size + 1) (o := 0) (.int .i64 0) rfl).keep z0 (by show ¬ w.heap.size = w.heap.size + 1; omega)
            exact cellh ((Chg.set (D := fun x => x = w.heap.size + 1 + 1) ((wr.setCell ⟨w.heap.size, 0, none⟩ (.slice (some ⟨nb, 0, none⟩) n n)).setCell ⟨w.heap.size + 1, 0, none⟩ (.int .i64 0)) (l := w.heap.size + 1 + 1) (o := 0) (.int .i64 0) rfl).keep z1 (by show ¬ w.heap.size = w.heap.size + 1 + 1; omega)) rfl
          have l7 : W7.cell? ⟨w.heap.size + 1, 0, none⟩ = some (.int .i64 0) := by
            rw [hW7]
            have z0 := (Chg.set (D := fun x => x = w.heap.size) wr (l := w.heap.size) (o := 0) (.slice (some ⟨nb, 0, none⟩) n n) rfl).keep BX3.out.l (by show ¬ w.heap.size + 1 = w.heap.size; omega)
            have z1 := hset (i := 0) z0 (.int .i64 0)
            exact cellh ((Chg.set (D := fun x => x = w.heap.size + 1 + 1) ((wr.setCell ⟨w.heap.size, 0, none⟩ (.slice (some ⟨nb, 0, none⟩) n n)).setCell ⟨w.heap.size + 1, 0, none⟩ (.int .i64 0)) (l := w.heap.size + 1 + 1) (o := 0) (.int .i64 0) rfl).keep z1 (by show ¬ w.heap.size + 1 = w.heap.size + 1 + 1; omega)) rfl
          have e7 : W7.cell? ⟨w.heap.size + 1 + 1, 0, none⟩ = some (.int .i64 0) := by
            rw [hW7]
            have z0 := (Chg.set (D := fun x => x = w.heap.size) wr (l := w.heap.size) (o := 0) (.slice (some ⟨nb, 0, none⟩) n n) rfl).keep BX3.out.e (by show ¬ w.heap.size + 2 = w.heap.size; omega)
            have z1 := (Chg.set (D := fun x => x = w.heap.size + 1) (wr.setCell ⟨w.heap.size, 0, none⟩ (.slice (some ⟨nb, 0, none⟩) n n)) (l := w.heap.size + 1) (o := 0) (.int .i64 0) rfl).keep z0 (by show ¬ w.heap.size + 2 = w.heap.size + 1; omega)
            exact cellh (hset (i := 0) z1 (.int .i64 0)) rfl
          rw [← hW7]
          clear hW7
          have HNS := Lib.hid (HS.out.st.chg C7.out (fun x e => by have := HS.out.lt; have := HNB.out.1; omega))
          have HLN := Lib.hid (show ys.length = n from HI.out.1.len)
          refine leaves_cons (f := 30) (args := #[.pointer (some ⟨w.heap.size, 0, none⟩), .pointer (some ⟨w.heap.size + 1, 0, none⟩), .pointer (some ⟨w.heap.size + 1 + 1, 0, none⟩)]) (by simp) (by simp [go_sem]) ?_
          refine (catch_idle ⟨w.heap.size, 0, none⟩ ⟨w.heap.size + 1, 0, none⟩ ⟨w.heap.size + 1 + 1, 0, none⟩ W7).mono ?_
          rintro e u' w9 ⟨rfl, rfl, rfl⟩
          have HK := Lib.hid (show DPar r w (.returned (.tuple #[.agg #[.slice (some ⟨nb, 0, none⟩) n n], .int .i64 0, .int .i64 0])) w9 from ⟨by
            rw [HE.out]
            exact ⟨nb, _, O, ns, by rw [HLN.out], by have := HNB.out.1; omega, HNS.out⟩, BX3.out.b.trans (C7.out.below (fun x e => by omega) BX3.out.b.size)⟩)
          simp [Leaves, settle, results, Tryz.results15, go_sem, t7, l7, e7]
          exact HK.out
        · rw [if_neg hu] at hF
          have c0 := HS.out.rb.c0
          have e2 : u2.toList.isEmpty = false := ne_empty (fun e => hu (by rw [e]))
          cases hn : nextF u2 with
          | none =>
            rw [hn] at hF
            simp only at hF
            have HE : Hid (r = .error (l + 1, 5)) := Lib.hid hF.symm
            have NX := Lib.hid (next_bad HS.out.rb HS.out.gb (Nat.le_refl _) (by have := HI.out; omega) (by have := HI.out; omega) hn)
            clear hF hu hn
            go_wp2_with (first
              | (go_at_call 33; ((with_reducible refine NX.out.mono ?_); rintro e w4 ⟨rfl, c4⟩; have BX4 := Lib.hid (BX3.out.on (c4.below (fun x e => by omega) HS.out.gb.le)); clear c4))
              | fail)
            refine leaves_cons (f := 30) (args := #[.pointer (some ⟨w.heap.size, 0, none⟩), .pointer (some ⟨w.heap.size + 1, 0, none⟩), .pointer (some ⟨w.heap.size + 2, 0, none⟩)]) (by simp) (by simp [go_sem]) ?_
            refine (catch_fault w.heap.size (w.heap.size + 1) (w.heap.size + 2) _ _ (.slice none 0 0) (.int .i64 0) (.int .i64 0) w4 BX4.out.t BX4.out.l BX4.out.e (by omega) (by omega) (by omega)).mono ?_
            rintro e u' w9 ⟨rfl, rfl, x9, l9, e9, c9⟩
            have B9 := Lib.hid (c9.below (lo := w.heap.size) (fun x e => by omega) BX4.out.b.size)
            have k0 : w9.cell? ⟨w.heap.size, 0, none⟩ = some (.slice none 0 0) := cellh x9 rfl
            have kl := cellh l9 (i := 0) (v := .int .i64 (l + 1)) rfl
            have ke : w9.cell? ⟨w.heap.size + 1 + 1, 0, none⟩ = some (.int .i64 (5)) := cellh e9 (i := 0) (v := .int .i64 (5)) rfl
            clear x9 l9 e9 c9
            have HK := Lib.hid (show DPar r w (.returned (.tuple #[.agg #[.slice none 0 0], .int .i64 (l + 1), .int .i64 (5)])) w9 from ⟨by rw [HE.out], BX4.out.b.trans B9.out⟩)
            simp [Leaves, settle, results, Tryz.results15, go_sem, FP, k0, kl, ke]
            exact HK.out
          | some q =>
            obtain ⟨ws, u3⟩ := q
            rw [hn] at hF
            simp only at hF
            have hfx := next_facts hn
            have HFX := Lib.hid (show 0 < ws.length ∧ ws.length ≤ 900000 ∧ u3.size < u2.size ∧ (∀ x ∈ ws, x.size ≤ 890000) ∧ u2.size = (lineL ws).length + u3.size from ⟨hfx.1, by have := next_len hn; have := HI.out; omega, hfx.2.1, fun x hx => by have := hfx.2.2.1 x hx; have := HI.out; omega, by have h1 := congrArg List.length (next_list hn); rw [ba_len, List.length_append, ba_len] at h1; exact h1⟩)
            have NX := Lib.hid (next_ok HS.out.rb HS.out.gb (Nat.le_refl _) (by have := HI.out; omega) (by have := HI.out; omega) hn)
            obtain ⟨bf, hbf⟩ : ∃ bf, bodyF n z ys ws = bf := ⟨_, rfl⟩
            rw [hbf] at hF
            have HBF := Lib.hid hbf
            have HF2 := Lib.hid hF
            clear hF hu hn hfx hbf
            have step : ∀ (b4 n4 : Nat) (w4 : World), wr.heap.size ≤ b4 → ws.length = n4 → ES.Rd w4 (some ⟨b4, 0, none⟩) ws → RB (.slice (some ⟨nb, 0, none⟩) n n) (.int .i64 (z : Int)) w4 (w.heap.size + 3) u3 (l + 1) → Chg (fun x => x = w.heap.size + 3) wr w4 → Calls Tryz.prog 32 #[.pointer (some ⟨w.heap.size + 3, 0, none⟩), .slice (some ⟨b4, 0, none⟩) n4 n4] w4 (RBd (w.heap.size + 3) w2.heap.size nb (w.heap.size + 3) n u3 (l + 1) w4 (fun q => if q = b4 then (0, 0) else O q) bf) := fun b4 n4 w4 h1 h2 h3 h4 h5 => by
              have hI := HI.out
              have hF := HFX.out
              have hlt := HS.out.lt
              have hb4 : b4 < w4.heap.size := rd_lt h3 (by omega)
              have hS4 : BSt (w.heap.size + 3) w2.heap.size nb (w.heap.size + 3) n z u3 (l + 1) (fun q => if q = b4 then (0, 0) else O q) ns ys w4 :=
                ⟨h4, ((HS.out.st.tell (O' := fun q => if q = b4 then (0, 0) else O q) (fun q hq => by have : ¬ q = b4 := (by intro e; omega); simp [this])).chg h5 (fun q e => ⟨by omega, by omega⟩)), HS.out.gb.chg h5 (Nat.le_refl _), hlt, Nat.le_trans HS.out.hi h5.size, HS.out.new⟩
              have hfew := hI.1.few (m := 1000000) (by omega)
              rw [← HBF.out]
              exact body_any hS4 hI.1.zn h3 h2 (by omega) (by omega) (fun i => wda_sz (fun x hx => Nat.le_trans (hF.2.2.2.1 x hx) (by omega)) i) (fun x hx => Nat.le_trans (hF.2.2.2.1 x hx) (by omega)) ⟨by have := HNB.out.1; have := HS.out.st.blk.lt; omega, by have := R2.out.lt; have := HS.out.hi; omega, hb4, by simp⟩ hfew
            have ST := Lib.hid step
            clear step
            cases bf with
            | none =>
              have HE : Hid (r = .error (l + 1, 3)) := Lib.hid HF2.out.symm
              go_wp2_with (first
                | (go_at_call 33; ((with_reducible refine NX.out.mono ?_); rintro e w4 ⟨b4, n4, rfl, h1, h2, h3, h4, h5⟩; have C5 := Lib.hid (ST.out b4 n4 w4 h1 h2 h3 h4 h5); have BX4 := Lib.hid (BX3.out.on (h5.below (fun x e => by omega) HS.out.gb.le)); clear h1 h2 h3 h4 h5))
                | (go_at_call 32; ((with_reducible refine C5.out.mono ?_); rintro e w5 ⟨rfl, b5⟩; have BX5 := Lib.hid (BX4.out.on b5); clear b5))
                | fail)
              refine leaves_cons (f := 30) (args := #[.pointer (some ⟨w.heap.size, 0, none⟩), .pointer (some ⟨w.heap.size + 1, 0, none⟩), .pointer (some ⟨w.heap.size + 2, 0, none⟩)]) (by simp) (by simp [go_sem]) ?_
              refine (catch_fault w.heap.size (w.heap.size + 1) (w.heap.size + 2) _ _ (.slice none 0 0) (.int .i64 0) (.int .i64 0) w5 BX5.out.t BX5.out.l BX5.out.e (by omega) (by omega) (by omega)).mono ?_
              rintro e u' w9 ⟨rfl, rfl, x9, l9, e9, c9⟩
              have B9 := Lib.hid (c9.below (lo := w.heap.size) (fun x e => by omega) BX5.out.b.size)
              have k0 : w9.cell? ⟨w.heap.size, 0, none⟩ = some (.slice none 0 0) := cellh x9 rfl
              have kl := cellh l9 (i := 0) (v := .int .i64 (l + 1)) rfl
              have ke : w9.cell? ⟨w.heap.size + 1 + 1, 0, none⟩ = some (.int .i64 (3)) := cellh e9 (i := 0) (v := .int .i64 (3)) rfl
              clear x9 l9 e9 c9
              have HK := Lib.hid (show DPar r w (.returned (.tuple #[.agg #[.slice none 0 0], .int .i64 (l + 1), .int .i64 (3)])) w9 from ⟨by rw [HE.out], BX5.out.b.trans B9.out⟩)
              simp [Leaves, settle, results, Tryz.results15, go_sem, FP, k0, kl, ke]
              exact HK.out
            | some q =>
              obtain ⟨z2, ys2⟩ := q
              have hF2 := HF2.out
              simp only at hF2
              have HF3 := Lib.hid hF2
              clear hF2
              go_wp2_with (first
                | (go_at_call 33; ((with_reducible refine NX.out.mono ?_); rintro e w4 ⟨b4, n4, rfl, h1, h2, h3, h4, h5⟩; have C5 := Lib.hid (ST.out b4 n4 w4 h1 h2 h3 h4 h5); have BX4 := Lib.hid (BX3.out.on (h5.below (fun x e => by omega) HS.out.gb.le)); clear h1 h2 h3 h4 h5))
                | (go_at_call 32; ((with_reducible refine C5.out.mono ?_); rintro e w5 ⟨⟨rfl, O', ns', hS5, _⟩, b5⟩; have BX5 := Lib.hid (BX4.out.on b5); have S5 := Lib.hid hS5; clear b5 hS5))
                | fail)
              have hbb := body_back HI.out.1 HBF.out
              refine ⟨⟨f, z2, u3, l + 1, ys2, ns', O', HF3, S5, Lib.hid ⟨hbb.1, ?_, ?_, ?_, ?_⟩, BX5.out⟩, ?_⟩
              · have h1 := congrArg List.length hbb.2
                rw [List.length_append] at h1
                have := HI.out; have := HFX.out
                omega
              · have := HI.out; have := HFX.out; omega
              · have := HI.out; omega
              · have := HI.out; have := HFX.out; omega
              · rw [S5.out.rb.sz, HS.out.rb.sz]; exact HFX.out.2.2.1
end Go.Proofs.YtdebedeebmmleaaGreatDoor
namespace Go.Proofs.YtdebedeebmmleaaGreatDoor
open Go.RowKit Go.Maps
/-- A node's lines, counted. -/
def lnAt (y : NdV) : Nat := if y.k = 0 then 0 else 1 + y.bl.length + y.ms.length
def lnN (ys : List NdV) : Nat := 1 + (ys.map lnAt).sum
theorem ln_next {ys : List NdV} {k : Nat} {y : NdV} (h : ys[k]? = some y) : lnN (ys.take (k + 1)) = lnN (ys.take k) + lnAt y := by
  unfold lnN
  rw [List.take_add_one, h]
  simp
  omega
theorem ln_le {ys : List NdV} (h : ∀ y ∈ ys, NSm y) : ∀ k, lnN (ys.take k) ≤ 1 + 1800001 * k
  | 0 => by simp [lnN]
  | k + 1 => by
    have ih := ln_le h k
    cases hq : ys[k]? with
    | none =>
      rw [List.take_add_one, hq]
      simp
      omega
    | some y =>
      rw [ln_next hq]
      have h1 := (h y (List.mem_of_getElem? hq)).b.1
      have h2 := (h y (List.mem_of_getElem? hq)).m.1
      have : lnAt y ≤ 1800001 := by unfold lnAt; split <;> omega
      omega
set_option maxHeartbeats 4000000 in
set_option maxRecDepth 100000 in
theorem lines_any (A : Option Addr) (n c : Nat) (ns : List NC) (ys : List NdV) (w : World) (hg : GW w) (hT : NT w A ns ys) (hl : ys.length = n) (hn : n ≤ 1000000) (hS : ∀ y ∈ ys, NSm y) :
    Calls Tryz.prog 11 #[.agg #[.slice A n c]] w fun e w' => e = .returned (.int .i64 (if toldB ys = true then (lnN ys : Int) else 0)) ∧ Below w.heap.size w w' := by
  have TD := told_any A n c ns ys
  obtain ⟨r, hr⟩ : ∃ r, toldB ys = r := ⟨_, rfl⟩
  rw [hr] at TD ⊢
  have HT := Lib.hid hT
  have HS := Lib.hid hS
  have HL := Lib.hid (And.intro hl hn)
  obtain ⟨W0, hW0⟩ : ∃ W0, W0 = w.alloc (.cells #[.slice A n c] 24) := ⟨_, rfl⟩
  have B0 := Lib.hid (show Below w.heap.size w W0 by rw [hW0]; exact alb w _)
  have Z0 := Lib.hid (show W0.heap[w.heap.size]? = some (.cells #[.slice A n c] 24 (0, 0)) by rw [hW0]; exact heap_alloc_new w _)
  have c0 : W0.cell? ⟨w.heap.size, 0, none⟩ = some (.slice A n c) := cellh Z0.out rfl
  have TD0 := Lib.hid (TD W0 (hg.later B0.out) (hT.later B0.out) hl hn hS)
  clear hg hT hl hn hS TD
  cases r with
  | false =>
    clear hr
    go_enter Tryz.func11, Tryz.ntmps11
    go_upto_region 1 with fail
    rw [← hW0]
    clear hW0
    go_wp2_with (first
      | (go_at_call 18; ((with_reducible refine TD0.out.mono ?_); rintro e w1 ⟨rfl, b1⟩; have B1 := Lib.hid (bel_trans B0.out b1); clear b1))
      | fail)
    go_ret
    exact ⟨rfl, B1.out⟩
  | true =>
    have HN4 : Hid (n ≤ 4097) := Lib.hid (by unfold toldB at hr; rw [Bool.and_eq_true] at hr; have := hr.1; simp at this; have := HL.out; omega)
    clear hr
    go_enter Tryz.func11, Tryz.ntmps11
    go_upto_region 1 with fail
    rw [← hW0]
    clear hW0
    go_upto_region 3 with (first
      | (go_at_call 18; ((with_reducible refine TD0.out.mono ?_); rintro e w1 ⟨rfl, b1⟩; have B1 := Lib.hid (bel_trans B0.out b1); have Z1 := Lib.hid (keep_bel b1 Z0.out); clear b1))
      | fail)
    replace c0 : w1.cell? ⟨w.heap.size, 0, none⟩ = some (.slice A n c) := cellh Z1.out rfl
    go_upto_region 5 with fail
    clear c0
    go_loopw [3, 12] (fun lv iv wr => ∃ k : Nat, k ≤ n ∧ iv = .int .i64 k ∧ lv = .int .i64 (lnN (ys.take k) : Nat) ∧ Below w.heap.size w wr) (fun _ iv _ => n - (intOf iv).toNat)
    case atStart => exact ⟨0, by omega, rfl, by simp [lnN], B1.out⟩
    case round =>
      rename World => w4
      obtain ⟨k, hk, rfl, rfl, hb⟩ := hrel
      have HB := Lib.hid hb
      clear hb
      have hnn := HL.out
      have hn4 := HN4.out
      by_cases h8 : k < n
      · have q1 : (k : Int) < (n : Int) := by omega
        have q0 : (0 : Int) ≤ (k : Int) := by omega
        have WK : IntKind.i64.wrap ((k : Int) + 1) = (k : Int) + 1 := IntWalk.i64_in _ (by omega)
        obtain ⟨y, hy⟩ : ∃ y, ys[k]? = some y := ⟨_, List.getElem?_eq_getElem (by omega)⟩
        obtain ⟨x, hx⟩ : ∃ x, ns[k]? = some x := ⟨_, List.getElem?_eq_getElem (by have := HT.out.l; omega)⟩
        obtain ⟨hs, hN⟩ := HT.out.e k x y hx hy
        obtain ⟨b2, off, hA, hlt, g0, g1, g2, g3, g4⟩ := en_at (HT.out.r.later HB.out) hx
        have HNX := Lib.hid (ln_next hy)
        have hle := ln_le HS.out k
        obtain ⟨s, hs0⟩ : ∃ s, s = lnN (ys.take k) := ⟨_, rfl⟩
        have HSS := Lib.hid hs0
        rw [← hs0] at hle ⊢
        obtain ⟨nm, hnm⟩ : ∃ m, m = y.ms.length := ⟨_, rfl⟩
        obtain ⟨nl, hnl⟩ : ∃ m, m = y.bl.length := ⟨_, rfl⟩
        have h1 := (HS.out y (List.mem_of_getElem? hy)).b.1
        have h2 := (HS.out y (List.mem_of_getElem? hy)).m.1
        have HXN := Lib.hid (show x.m.n = nm ∧ x.b.n = nl ∧ x.k = y.k from ⟨by rw [hN.m.1, hnm], by rw [hN.b.1, hN.b.2.2.1, hnl], hN.k⟩)
        have HLA := Lib.hid (show lnAt y = if y.k = 0 then 0 else 1 + nl + nm by unfold lnAt; rw [← hnm, ← hnl])
        have WA : IntKind.i64.wrap (1 + (nl : Int)) = 1 + (nl : Int) := IntWalk.i64_in _ (by omega)
        have WB2 : IntKind.i64.wrap (1 + (nl : Int) + (nm : Int)) = 1 + (nl : Int) + (nm : Int) := IntWalk.i64_in _ (by omega)
        have WC : IntKind.i64.wrap ((s : Int) + (1 + (nl : Int) + (nm : Int))) = (s : Int) + (1 + (nl : Int) + (nm : Int)) := IntWalk.i64_in _ (by omega)
        obtain ⟨W3, hW3⟩ : ∃ W3, W3 = w4.alloc (nodeO x) := ⟨_, rfl⟩
        have B3 := Lib.hid (show Below w.heap.size w W3 by rw [hW3]; exact bel_alloc HB.out _)
        have Z3 := Lib.hid (show W3.heap[w4.heap.size]? = some (nodeO x) by rw [hW3]; exact heap_alloc_new w4 _)
        rw [hA]
        clear hx hy hN hA hlt hle hs0 hnm hnl h1 h2 hnn hn4
        go_upto_region 7 with fail
        rw [← hW3]
        clear hW3 g0 g1 g2 g3 g4
        obtain ⟨d0, d1, d2, d3, d4⟩ := cells5 Z3.out
        rw [HXN.out.1] at d3
        rw [HXN.out.2.1] at d4
        by_cases hz : x.k = 0
        · have f1 : (x.k == 0) = true := by rw [hz]; rfl
          have HZ := Lib.hid (show lnN (ys.take (k + 1)) = s by rw [HNX.out, ← HSS.out, HLA.out, if_pos (by rw [← HXN.out.2.2]; exact hz)]; rfl)
          clear hz
          go_wp2
          exact ⟨⟨k + 1, by omega, by simp, by rw [HZ.out], B3.out⟩, by simp [intOf]; omega⟩
        · have f1 : (x.k == 0) = false := beq_eq_false_iff_ne.2 hz
          have HZ := Lib.hid (show lnN (ys.take (k + 1)) = s + (1 + nl + nm) by rw [HNX.out, ← HSS.out, HLA.out, if_neg (by rw [← HXN.out.2.2]; exact hz)])
          clear hz
          go_wp2
          exact ⟨⟨k + 1, by omega, by simp, by rw [HZ.out]; push_cast; rfl, B3.out⟩, by simp [intOf]; omega⟩
      · have hke : k = n := by omega
        subst hke
        have q1 : ¬ (k : Int) < (k : Int) := by omega
        have HE := Lib.hid (show ys.take k = ys by rw [List.take_of_length_le (by omega)])
        rw [HE.out]
        clear hnn hn4
        go_wp2
        go_ret
        exact ⟨rfl, HB.out⟩
def LC (t : ByteArray) : Nat := t.data.toList.count 10
def cntF (L : List UInt8) (i : Nat) : Nat := (L.take i).count 10
theorem cnt_yes {L : List UInt8} {i : Nat} (h : L[i]? = some 10) : cntF L (i + 1) = cntF L i + 1 := by
  unfold cntF; rw [List.take_add_one, h]; simp
theorem cnt_no {L : List UInt8} {i : Nat} {c : UInt8} (h : L[i]? = some c) (hc : c ≠ 10) : cntF L (i + 1) = cntF L i := by
  unfold cntF; rw [List.take_add_one, h]; simp [List.count_cons, hc]
theorem cnt_le (L : List UInt8) (i : Nat) : cntF L i ≤ i := Nat.le_trans List.count_le_length (by rw [List.length_take]; omega)
set_option maxHeartbeats 2000000 in
set_option maxRecDepth 100000 in
theorem rlines_any (s : ByteArray) (hs : s.size ≤ 100000000) (w : World) :
    Calls Tryz.prog 12 #[.string s] w fun e w' => e = .returned (.int .i64 (LC s : Nat)) ∧ w' = w := by
  have HS := Lib.hid hs
  clear hs
  go_enter Tryz.func12, Tryz.ntmps12
  go_upto_region 3 with fail
  go_loopw [3, 4] (fun av iv wr => ∃ i c : Nat, i ≤ s.size ∧ av = .int .i64 (c : Int) ∧ iv = .int .i64 i ∧ Hid (cntF s.data.toList i = c) ∧ wr = w) (fun _ i _ => s.size - (intOf i).toNat)
  case atStart => exact ⟨0, 0, by omega, rfl, rfl, Lib.hid rfl, rfl⟩
  case round =>
    obtain ⟨i, c, hi, rfl, rfl, HCC, rfl⟩ := hrel
    have ci := cnt_le s.data.toList i
    have hN := HS.out
    by_cases hB : i < s.size
    · obtain ⟨x, hx⟩ : ∃ x, s.data.toList[i]? = some x := ⟨_, List.getElem?_eq_getElem (by rw [Array.length_toList]; show i < s.size; omega)⟩
      rw [HCC.out] at ci
      have k1 : (i : Int) < (s.size : Int) := by omega
      have k0 : (0 : Int) ≤ (i : Int) := by omega
      have WK : IntKind.i64.wrap ((i : Int) + 1) = (i : Int) + 1 := IntWalk.i64_in _ (by omega)
      have WC : IntKind.i64.wrap ((c : Int) + 1) = (c : Int) + 1 := IntWalk.i64_in _ (by omega)
      have hi9 : i < s.size := by omega
      have hx2 : s[i]'hi9 = x := by
        have q := (List.getElem?_eq_some_iff.1 hx).2
        rw [← q]; rfl
      have HX := Lib.hid hx
      by_cases h10 : x = 10
      · have d1 : (((s[i]'hi9).toNat : Int) == 10) = true := by rw [hx2, h10]; rfl
        have E10 := Lib.hid (show s.data.toList[i]? = some 10 by rw [hx, h10])
        clear hx2 hx h10 ci hN
        go_wp2
        exact ⟨⟨i + 1, c + 1, by omega, by simp, by simp, Lib.hid (by rw [cnt_yes E10.out, HCC.out]), by trivial⟩, by simp [intOf]; omega⟩
      · have d1 : (((s[i]'hi9).toNat : Int) == 10) = false := by
          rw [hx2]
          have : x.toNat ≠ 10 := fun e => h10 (UInt8.toNat_inj.1 e)
          simp; omega
        have H10 := Lib.hid h10
        clear hx2 hx h10 ci hN
        go_wp2
        exact ⟨⟨i + 1, c, by omega, rfl, by simp, Lib.hid (by rw [cnt_no HX.out H10.out, HCC.out]), by trivial⟩, by simp [intOf]; omega⟩
    · have hie : i = s.size := by omega
      have k1 : ¬ (i : Int) < (s.size : Int) := by omega
      have HE := Lib.hid (show c = LC s by rw [← HCC.out, hie]; unfold cntF LC; rw [List.take_of_length_le (by rw [Array.length_toList]; exact Nat.le_refl _)])
      clear hie ci hN
      go_wp2
      go_ret
      exact ⟨by rw [HE.out]; try rfl, rfl⟩
end Go.Proofs.YtdebedeebmmleaaGreatDoor
namespace Go.Proofs.YtdebedeebmmleaaGreatDoor
open Go.RowKit Go.Maps
theorem join_mem : ∀ {ps : List (List UInt8)} {p : List UInt8}, p ∈ ps → p.length ≤ (Lib.join ps [32]).length
  | [], p, h => by cases h
  | [q], p, h => by simp at h; subst h; rw [Lib.join_one]; exact Nat.le_refl _
  | q :: r :: ps, p, h => by
    rw [join_two, List.length_append, List.length_cons]
    rcases List.mem_cons.1 h with rfl | h
    · omega
    · have := join_mem h; omega
theorem line_mem {ws : List ByteArray} {x : ByteArray} (h : x ∈ ws) : x.size ≤ (lineL ws).length := by
  unfold lineL
  have := join_mem (ps := ws.map (·.data.toList)) (List.mem_map.2 ⟨x, h, rfl⟩)
  rw [ba_len] at this
  rw [List.length_append]
  omega
theorem tok_ge (x : ByteArray) : x.size ≤ (tokB x).size := txt_size (txt_tok x)
theorem emp_of {x : ByteArray} (h : x.toList = []) : x.size = 0 := by
  have h2 := ba_len x
  rw [← ByteArray.toList_eq, h] at h2
  exact h2.symm
theorem mf_emp {m : M} (h : TMs m) : (m.k = 1 → m.too.size = 0) ∧ (m.k = 2 → m.too.size = 0 ∧ m.val.size = 0) ∧ (m.k = 3 → m.too.size = 0 ∧ m.val.size = 0) ∧ (m.k = 4 → m.val.size = 0) := by
  have hf := h.f
  refine ⟨fun hk => ?_, fun hk => ?_, fun hk => ?_, fun hk => ?_⟩
  all_goals
    rw [hk] at hf
    unfold mF at hf
  · rw [if_pos rfl] at hf
    by_cases q : m.too.toList = []
    · exact emp_of q
    · rw [if_pos q] at hf; exact absurd rfl hf
  · rw [if_neg (by decide), if_pos rfl] at hf
    by_cases q : m.too.toList = []
    · by_cases q2 : m.val.toList = []
      · exact ⟨emp_of q, emp_of q2⟩
      · rw [if_neg (by simpa using q), if_pos q2] at hf; exact absurd rfl hf
    · rw [if_pos q] at hf; exact absurd rfl hf
  · rw [if_neg (by decide), if_neg (by decide), if_pos rfl] at hf
    by_cases q : m.too.toList = []
    · by_cases q2 : m.val.toList = []
      · exact ⟨emp_of q, emp_of q2⟩
      · rw [if_neg (by simpa using q), if_pos q2] at hf; exact absurd rfl hf
    · rw [if_pos q] at hf; exact absurd rfl hf
  · rw [if_neg (by decide), if_neg (by decide), if_neg (by decide), if_pos rfl] at hf
    by_cases q : m.val.toList = []
    · exact emp_of q
    · rw [if_pos q] at hf; exact absurd rfl hf
theorem msm_of {m : M} (h : TMs m) {L : Nat} (hl : (lineL (mWd m)).length ≤ L) (h9 : L ≤ 900000) : MSm m := by
  have he := mf_emp h
  have hm : ∀ x, tokB x ∈ mWd m → x.size ≤ 900000 := fun x hx => by
    have h1 := line_mem hx
    have h2 := tok_ge x
    omega
  unfold MSm
  rcases h.k with hk | hk | hk | hk
  · refine ⟨hm _ ?_, by rw [he.1 hk]; omega, hm _ ?_⟩ <;> (unfold mWd; rw [if_pos hk]; simp)
  · refine ⟨hm _ ?_, by rw [(he.2.1 hk).1]; omega, by rw [(he.2.1 hk).2]; omega⟩
    unfold mWd; rw [if_neg (by omega), if_pos hk]; simp
  · refine ⟨hm _ ?_, by rw [(he.2.2.1 hk).1]; omega, by rw [(he.2.2.1 hk).2]; omega⟩
    unfold mWd; rw [if_neg (by omega), if_neg (by omega), if_pos hk]; simp
  · refine ⟨hm _ ?_, hm _ ?_, by rw [he.2.2.2 hk]; omega⟩ <;> (unfold mWd; rw [if_neg (by omega), if_neg (by omega), if_neg (by omega)]; simp)
theorem nsm_node {i : Nat} {y : NdV} (h : TNd y) {L : Nat} (hl : (nodeL i y).length ≤ L) (h4 : L ≤ 400000) : NSm y := by
  rcases h with ⟨h0, h1, h2, h3, h5⟩ | ⟨h0, h1, h2, h3⟩ | ⟨h0, h1, h2, h3, h5⟩
  · exact ⟨by rw [h2]; simp, by rw [h1]; simp, by rw [h3]; simp, by rw [h5]; simp⟩
  · unfold nodeL at hl
    rw [if_pos h0, List.length_append] at hl
    have a1 := fm_long (fun l => lineL (bWd l)) (fun l => line_ne _) y.bl
    refine ⟨by rw [h2]; simp, by rw [h1]; simp, by rw [h3]; simp, by omega, fun l hll => ?_⟩
    have a2 := fm_mem (fun l => lineL (bWd l)) hll
    have a3 := line_long (bWd l)
    rw [bwd_len] at a3
    refine ⟨by omega, fun e he => ?_⟩
    have k1 : tokB e.key ∈ bWd l := List.mem_cons_of_mem _ (List.mem_flatMap.2 ⟨e, he, by simp [eWd]⟩)
    have k2 : tokB e.val ∈ bWd l := List.mem_cons_of_mem _ (List.mem_flatMap.2 ⟨e, he, by simp [eWd]⟩)
    have b1 := line_mem k1
    have b2 := line_mem k2
    have b3 := tok_ge e.key
    have b4 := tok_ge e.val
    omega
  · unfold nodeL at hl
    rw [if_neg (by omega), if_pos h0, List.length_append] at hl
    have a1 := fm_long (fun m => lineL (mWd m)) (fun l => line_ne _) y.ms
    have a2 := line_long (wInner :: itoaB (i : Int) :: kWd y.kids y.piv)
    rw [List.length_cons, List.length_cons] at a2
    have a3 : (kWd y.kids y.piv).length = 2 * y.piv.length + 1 := by
      cases hq : y.kids with
      | nil => rw [hq] at h2; simp at h2
      | cons a q =>
        rw [hq, List.length_cons] at h2
        show ((y.piv.zip q).flatMap pWd).length + 1 = _
        have h7 : ∀ (zs : List (ByteArray × Int)), (zs.flatMap pWd).length = 2 * zs.length := fun zs => by
          induction zs with
          | nil => rfl
          | cons e l ih => rw [List.flatMap_cons, List.length_append, ih, List.length_cons]; show 2 + _ = _; omega
        rw [h7, List.length_zip]
        omega
    refine ⟨⟨by omega, fun t ht => ?_⟩, by omega, ⟨by omega, fun m hm => ?_⟩, by rw [h1]; simp⟩
    · cases hq : y.kids with
      | nil => rw [hq] at h2; simp at h2
      | cons a q =>
        obtain ⟨j, hj⟩ := List.mem_iff_getElem?.1 ht
        have hjl := (List.getElem?_eq_some_iff.1 hj).1
        have hql : q.length = y.piv.length := by rw [hq, List.length_cons] at h2; omega
        obtain ⟨v, hv⟩ : ∃ v, q[j]? = some v := ⟨_, List.getElem?_eq_getElem (by omega)⟩
        have hz : (t, v) ∈ y.piv.zip q := List.mem_of_getElem? (i := j) (by rw [List.getElem?_zip_eq_some]; exact ⟨hj, hv⟩)
        have k1 : tokB t ∈ wInner :: itoaB (i : Int) :: kWd y.kids y.piv := by
          refine List.mem_cons_of_mem _ (List.mem_cons_of_mem _ ?_)
          rw [hq]
          exact List.mem_cons_of_mem _ (List.mem_flatMap.2 ⟨(t, v), hz, by simp [pWd]⟩)
        have b1 := line_mem k1
        have b2 := tok_ge t
        omega
    · have a4 := fm_mem (fun m => lineL (mWd m)) hm
      exact msm_of (h5 m hm) (L := (lineL (mWd m)).length) (Nat.le_refl _) (by omega)
theorem nsm_text {ys : List NdV} (h : TAll ys) (hl : (dprL ys).length ≤ 400000) : ∀ y ∈ ys, NSm y := fun y hy => by
  obtain ⟨i, hi⟩ := List.mem_iff_getElem?.1 hy
  have h1 := nodes_long hi
  unfold dprL at hl
  rw [List.length_append] at hl
  exact nsm_node (i := i) (h.2 y hy) (L := (nodeL i y).length) (Nat.le_refl _) (by omega)
theorem OwR.rd {α : Type} {E : RE α} {w : World} {lo : Nat} {O : Nat → Nat × Nat} {who : Nat × Nat} {h : Hd} {l : List α} (r : OwR E w lo O who h l) : h.n = l.length ∧ E.Rd w h.A l := ⟨r.1, r.2.1.rd⟩
theorem NR.rd {w : World} {lo i : Nat} {O : Nat → Nat × Nat} {x : NC} {y : NdV} (h : NR w lo O i x y) : ∃ hs, NRd w x hs y := by
  obtain ⟨hs, h1, h2, h3⟩ := h.b
  exact ⟨hs, h.k, h.p.rd, h.q.rd, h.m.rd, h1.rd.1, h1.rd.2, h2, fun i g l hg hl => (h3 i g l hg hl).rd⟩
theorem rd_block {α : Type} {E : RE α} {w : World} {b : Nat} {xs : List α} {t : TypeId} (h : w.heap[b]? = some (.cells (E.all xs).toArray t (0, 0))) : E.Rd w (some ⟨b, 0, none⟩) xs :=
  .inr ⟨b, 0, rfl, heap_lt h, fun j u hj => cellh h (by rw [Nat.zero_add]; simpa using hj)⟩
theorem NS.nt {w : World} {lo nb : Nat} {O : Nat → Nat × Nat} {ns : List NC} {ys : List NdV} (h : NS w lo nb O ns ys) : NT w (some ⟨nb, 0, none⟩) ns ys :=
  ⟨rd_block h.blk, h.len, fun i x y hx hy => (h.row i x y hx hy).rd⟩
end Go.Proofs.YtdebedeebmmleaaGreatDoor
