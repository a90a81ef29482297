/- All, and its row. -/
import Derived.Test.YtpihoegikojlaaaP7
import Derived.Test.YtpihoegikojlaaaX2
namespace Go.Proofs.Ytpihoegikojlaaa
set_option linter.unusedSimpArgs false
open Go.RowKit Go.Maps
set_option linter.unusedVariables false
variable {F : Nat → Prop}

open Go.Shelf
attribute [local go_sem] Oper.semAt_some
theorem boxed_later {w w' : World} {N : Nat} {t : TypeId} {v : Value} (h : Boxed w N t v) (hb : Below w.heap.size w w') : Boxed w' N t v := (hb.block N h.lt).trans h
theorem boxed_chg {w w' : World} {N : Nat} {t : TypeId} {v : Value} {D : Nat → Prop} (h : Boxed w N t v) (hb : Chg D w w') (hn : ¬ D N) : Boxed w' N t v := (hb.block N h.lt hn).trans h
theorem gr_up {D D' : Nat → Prop} {a b c : World} (h : Gr D D' a b) (hs : b.heap.size ≤ c.heap.size) : Gr D D' a c := fun g hg => (h g hg).elim .inl (fun x => .inr ⟨x.1, Nat.lt_of_lt_of_le x.2 hs⟩)
theorem gc_step {D D' D2 : Nat → Prop} {W wr V W3 : World} (hgr : Gr D D' W wr) (hch : Chg D W wr) (hb : Below wr.heap.size wr V) (hg2 : Gr D' D2 V W3) (hc2 : Chg D' V W3) : Gr D D2 W W3 ∧ Chg D W W3 :=
  ⟨(gr_up hgr hb.size).trans hg2 (Nat.le_trans hch.size hb.size) hc2.size, (hch.trans (Chg.of_below (D := fun _ => False) hb) (fun g h => h.elim)).trans hc2 (fun g hg => (hgr g hg).elim .inl (fun x => .inr x.1))⟩
/-- The places that are taken, of the first k, with what they have. -/
def tkL (b : AB) : Nat → List (Int × Int)
  | 0 => []
  | k + 1 => tkL b k ++ (if b.tk (k + 1) = true then [(((k + 1 : Nat) : Int), b.vl (k + 1))] else [])
theorem tkL_len (b : AB) (k n : Nat) (h : k ≤ n) : (tkL b k).length ≤ (tkL b n).length := by
  induction n with
  | zero => obtain rfl : k = 0 := by omega
            exact Nat.le_refl _
  | succ n ih =>
    by_cases c : k = n + 1
    · subst c; exact Nat.le_refl _
    · have := ih (by omega)
      simp only [tkL, List.length_append]; omega
theorem tkL_on {b : AB} {k : Nat} (h : b.tk (k + 1) = true) : (tkL b (k + 1)).length = (tkL b k).length + 1 := by simp [tkL, h]
theorem tkL_off {b : AB} {k : Nat} (h : b.tk (k + 1) = false) : tkL b (k + 1) = tkL b k := by simp [tkL, h]
theorem tkL_get {b : AB} {k n : Nat} (hk : k < n) (ht : b.tk (k + 1) = true) : (tkL b n)[(tkL b k).length]? = some ((k : Int) + 1, b.vl (k + 1)) := by
  induction n with
  | zero => omega
  | succ n ih =>
    by_cases c : k = n
    · subst c
      simp only [tkL, ht, if_true]
      rw [List.getElem?_append_right (Nat.le_refl _), Nat.sub_self]; simp
    · have h1 := tkL_len b (k + 1) n (by omega)
      rw [tkL_on ht] at h1
      have := ih (by omega)
      simp only [tkL]
      rw [List.getElem?_append_left (by omega)]; exact this
abbrev enc (x : Int × Int) : Array Value := #[.int .i64 x.1, .int .i64 x.2]
theorem rd_chg {D : Nat → Prop} {w w' : World} {A : Option Addr} {l : List Value} (h : Rd w w.heap.size A l) (hc : Chg D w w') (hF : ∀ a, A = some a → ¬ D a.block) : Rd w' w'.heap.size A l := by
  rcases h with h | ⟨b, off, e, hlt, hcell⟩
  · exact .inl h
  · refine .inr ⟨b, off, e, Nat.lt_of_lt_of_le hlt hc.size, fun j u hj => ?_⟩
    exact (World.cell?_of_block (hc.block b hlt (hF _ e))).trans (hcell j u hj)
set_option maxRecDepth 100000 in
set_option maxHeartbeats 4000000 in
theorem all_seq (bx : Nat) (A : Option Addr) (c n : Nat) (b : AB) (pl : List Value) (hn : n ≤ 100000) (hPL : ∀ i, i < n → pl[i * 2]? = some (.int .i64 (b.vl (i + 1))) ∧ pl[i * 2 + 1]? = some (.bool (b.tk (i + 1)))) : SeqR Try.prog 34 #[.pointer (some ⟨bx, 0, none⟩)] enc (tkL b n) (fun g => g = bx ∨ A.map (·.block) = some g) (fun W => Boxed W bx 59 (.slice A n c) ∧ Rd W W.heap.size A pl) := by
  intro l J Jx W D hRW hD hin hJ hJx hY h0
  refine (callsIn_wide (n := 3)).1 ?_
  have c1 := hRW.1.cell
  have HR : Hid (∀ V, Chg D W V → Rd V V.heap.size A pl) := Lib.hid (fun V hV => rd_chg hRW.2 hV (fun a ha hf => hD _ hf (.inr (by rw [ha]; rfl))))
  have HPL := Lib.hid hPL
  have HJ := Lib.hid hJ
  have HY := Lib.hid hY
  have H0 := Lib.hid h0
  have HI := Lib.hid hin
  clear hRW hD hJ hY h0 hin hPL
  refine callsIn_of_wp Try.func34 rfl trivial ?_ rfl
  simp only [Try.ntmps34, List.size_toArray, List.length_cons, List.length_nil, Nat.reduceAdd, Nat.reduceSub, Array.replicate_succ, Array.replicate_zero, List.push_toArray, List.append_toArray, List.nil_append, List.cons_append]
  gi_wp2
  gi_loopw [7] (fun iv wr => ∃ (k : Nat) (E : Nat → Prop), k ≤ n ∧ iv = .int .i64 k ∧ J (tkL b k).length E wr ∧ Gr D E W wr ∧ Chg D W wr) (fun i _ => n - (intOf i).toNat)
  case atStart => exact ⟨0, D, Nat.zero_le _, rfl, H0.out, Gr.refl _ _ _, Chg.refl _ _⟩
  case round =>
    obtain ⟨k, E, hk, rfl, hj, hgr, hch⟩ := hrel
    have HGR := Lib.hid hgr
    have HCH := Lib.hid hch
    have HJK := Lib.hid hj
    clear hgr hch hj
    by_cases hlt : k < n
    · obtain ⟨e0, e1⟩ := HPL.out k hlt
      obtain ⟨bb, off, rfl, hbl, g0⟩ := Rd.get (HR.out wr HCH.out) e0
      obtain ⟨bb2, off2, eq2, _, g1⟩ := Rd.get (HR.out wr HCH.out) e1
      cases eq2
      rw [← Nat.add_assoc] at g1
      have hk1 : (k : Int) < (n : Int) := by omega
      have hk0 : (0 : Int) ≤ (k : Int) := by omega
      have hk9 : (k : Int) ≤ 100000 := by omega
      obtain ⟨x, hx⟩ : ∃ x, x = b.vl (k + 1) := ⟨_, rfl⟩
      rw [← hx] at g0
      have HX := Lib.hid hx
      clear e0 e1 hx hbl
      rcases ht : b.tk (k + 1) with _ | _
      · rw [ht] at g1
        have hV : Below wr.heap.size wr (wr.alloc (.cells #[.int .i64 x, .bool false] 80)) := bel_alloc (Below.refl _ _) _
        have HJV := Lib.hid (HJ.out.bel HJK.out hV)
        have HG := Lib.hid (gc_step HGR.out HCH.out hV (Gr.refl E _ _) (Chg.refl E _))
        have HT := Lib.hid ht
        clear hV ht
        gi_wp2
        refine ⟨fun f h => (by cases h), ?_⟩
        gi_wp2
        go_roundw
        case rel => exact ⟨k + 1, E, by omega, by simp, by rw [tkL_off HT.out]; exact HJV.out, HG.out.1, HG.out.2⟩
        case measure => simp [intOf]; omega
      · rw [ht] at g1
        have hV : Below wr.heap.size wr (wr.alloc (.cells #[.int .i64 x, .bool true] 80)) := bel_alloc (Below.refl _ _) _
        obtain ⟨fn, tmps, assign, body, hy, hRd⟩ := HY.out 2 (tkL b k).length ((k : Int) + 1, x) E (wr.alloc (.cells #[.int .i64 x, .bool true] 80)) (by rw [HX.out]; exact tkL_get hlt ht) (HJ.out.bel HJK.out hV) ((HI.out.gr HGR.out HCH.out.size).more hV.size)
        have HRD := Lib.hid hRd
        have HV := Lib.hid hV
        simp only [enc] at hy
        have HT := Lib.hid (tkL_on ht)
        clear hRd hV ht
        gi_wp2
        refine HRD.out.mono ?_
        rintro e W3 ⟨E2, hg2, hc2, (⟨rfl, hj⟩ | ⟨rfl, hj⟩)⟩
        · have HG := Lib.hid (gc_step HGR.out HCH.out HV.out hg2 hc2)
          have HJ3 := Lib.hid hj
          clear hg2 hc2 hj
          gi_wp2
          go_roundw
          case rel => exact ⟨k + 1, E2, by omega, by simp, by rw [HT.out]; exact HJ3.out, HG.out.1, HG.out.2⟩
          case measure => simp [intOf]; omega
        · have HG := Lib.hid (gc_step HGR.out HCH.out HV.out hg2 hc2)
          have HJ3 := Lib.hid hj
          clear hg2 hc2 hj
          gi_wp2
          refine bodyPost_ret (results_none rfl _ _ _) rfl ?_
          exact ⟨⟨_, rfl⟩, E2, HG.out.1, HG.out.2, .inr ⟨(tkL b k).length + 1, by rw [← HT.out]; exact tkL_len b (k + 1) n (by omega), HJ3.out⟩⟩
    · have hk1 : ¬ (k : Int) < (n : Int) := by omega
      have e : k = n := by omega
      have HE := Lib.hid e
      clear e
      gi_wp2
      go_end0
      exact ⟨⟨_, rfl⟩, E, HGR.out, HCH.out, .inl (by rw [← HE.out]; exact HJK.out)⟩
/-- What All gives. -/
def AllPost (w : World) (xs : List (Int × Int)) (e : Ending) (W : World) : Prop := ∃ lb F R, e = .returned (.func (.func 34) #[] lb) ∧ Below w.heap.size w W ∧ SeqR Try.prog 34 lb enc xs F R ∧ R W ∧ (∀ W W', R W → Below W.heap.size W W' → R W') ∧ ∀ g, F g → w.heap.size ≤ g ∧ g < W.heap.size
set_option maxRecDepth 100000 in
theorem pall {w : World} {lo N : Nat} {A G : Option Addr} {c d : Nat} {b : AB} (h : PA w lo N A G c d b) (iv : IV b) : Calls Try.prog 13 #[.pointer (some ⟨N, 0, none⟩)] w (AllPost w (tkL b b.top)) := by
  obtain ⟨pl, hp, hq⟩ := h.pl
  have hV : Below w.heap.size w (w.alloc (.cells #[.slice none 0 0] 59)) := bel_alloc (Below.refl _ _) _
  have ht := iv.top60
  have C := Lib.hid (own_place (own_bel hp hV) h.d4 (by omega))
  have c1 : (w.alloc (.cells #[.slice none 0 0] 59)).cell? ⟨N, 1, none⟩ = some (.slice A b.top c) := bel_later hV h.c1
  have hN : N < w.heap.size := h.hN.2
  have HV := Lib.hid hV
  have HQ := Lib.hid hq
  clear h iv hp hq
  go_enter Try.func13, Try.ntmps13
  go_wp2_with fail
  refine C.out.mono ?_
  rintro e w1 ⟨A', c', rfl, ho, _, _, hb⟩
  have hs : w.heap.size < w1.heap.size := by have := hb.size; simp at this; omega
  have B1 : Boxed w1 w.heap.size 59 (.slice none 0 0) := boxed_later (Boxed.new w 59 (.slice none 0 0)) hb
  have cc := B1.cell
  have cf := B1.frozen
  have HO := Lib.hid ho
  have HB := Lib.hid hb
  have HB1 := Lib.hid B1
  clear ho hb B1
  go_wp2
  have hbF : Below w.heap.size w (w1.setCell ⟨w.heap.size, 0, none⟩ (.slice A' b.top c')) := (HV.out.trans (HB.out.mono HV.out.size)).setCell (p := ⟨w.heap.size, 0, none⟩) (Nat.le_refl _) _
  have hne : (Value.slice A' b.top c').ownBlock ≠ some w.heap.size := by
    intro e
    have := (HO.out.lt _ e).1
    rw [World.size_alloc] at this
    omega
  have hR := Rd.of_own (own_set (o := 0) HO.out hne (.slice A' b.top c')) (by decide)
  refine bodyPost_ret (v := .func (.func 34) #[] #[.pointer (some ⟨w.heap.size, 0, none⟩)]) (by simp [results, Try.results13, go_sem]) rfl ⟨_, _, _, rfl, hbF, all_seq w.heap.size A' c' b.top b pl (by omega) HQ.out, ⟨HB1.out.set _, hR⟩, fun W W' h hb => ⟨boxed_later h.1 hb, Rd.later h.2 hb⟩, fun g hg => ?_⟩
  rcases hg with e | e
  · rw [e]; exact ⟨Nat.le_refl _, by have := hbF.size; simp [World.setCell]; omega⟩
  · have := HO.out.lt g (by rw [ob_eq]; exact e)
    rw [World.size_alloc] at this
    exact ⟨by omega, by simp [World.setCell]; exact this.2⟩
end Go.Proofs.Ytpihoegikojlaaa
