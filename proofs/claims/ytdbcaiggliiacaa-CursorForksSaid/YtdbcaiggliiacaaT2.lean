/- The iterator over all cursors of a table. -/
import Derived.Test.YtdbcaiggliiacaaT1
import Derived.Test.YtdbcaiggliiacaaX2
namespace Go.Proofs.Ytdbcaiggliiacaa
set_option linter.unusedSimpArgs false
open Go.RowKit Go.Maps Go.Sort Go.Shelf
set_option linter.unusedVariables false
attribute [local go_sem] Oper.semAt_some
theorem boxed_later {w w' : World} {N : Nat} {t : TypeId} {v : Value} (h : Boxed w N t v) (hb : Below w.heap.size w w') : Boxed w' N t v := (hb.block N h.lt).trans h
theorem boxed_chg {w w' : World} {N : Nat} {t : TypeId} {v : Value} {D : Nat → Prop} (h : Boxed w N t v) (hb : Chg D w w') (hn : ¬ D N) : Boxed w' N t v := (hb.block N h.lt hn).trans h
theorem gr_up {D D' : Nat → Prop} {a b c : World} (h : Gr D D' a b) (hs : b.heap.size ≤ c.heap.size) : Gr D D' a c := fun g hg => (h g hg).elim .inl (fun x => .inr ⟨x.1, Nat.lt_of_lt_of_le x.2 hs⟩)
theorem gr_dn {D D' : Nat → Prop} {a b c : World} (h : Gr D D' b c) (hs : a.heap.size ≤ b.heap.size) : Gr D D' a c := fun g hg => (h g hg).elim .inl (fun x => .inr ⟨Nat.le_trans hs x.1, x.2⟩)
theorem gc_step {D D' D2 : Nat → Prop} {W wr V W3 : World} (hgr : Gr D D' W wr) (hch : Chg D W wr) (hb : Below wr.heap.size wr V) (hg2 : Gr D' D2 V W3) (hc2 : Chg D' V W3) : Gr D D2 W W3 ∧ Chg D W W3 :=
  ⟨(gr_up hgr hb.size).trans hg2 (Nat.le_trans hch.size hb.size) hc2.size, (hch.trans (Chg.of_below (D := fun _ => False) hb) (fun g h => h.elim)).trans hc2 (fun g hg => (hgr g hg).elim .inl (fun x => .inr x.1))⟩
theorem Held.later {w w' : World} {B M' m n : Nat} {S : Int → Option Cur} (h : Held w B M' m n S) (hb : Below w.heap.size w w') : Held w' B M' m n S := ⟨boxed_later h.1 hb, h.2.heap (hb.block M' h.2.lt)⟩
theorem Held.chg {w w' : World} {B M' m n : Nat} {S : Int → Option Cur} {D : Nat → Prop} (h : Held w B M' m n S) (hc : Chg D w w') (h1 : ¬ D B) (h2 : ¬ D M') : Held w' B M' m n S := ⟨boxed_chg h.1 hc h1, h.2.heap (hc.block M' h.2.lt h2)⟩
theorem rd_chg {w w' : World} {A : Option Addr} {l : List Value} {D : Nat → Prop} (h : Rd w w.heap.size A l) (hc : Chg D w w') (hd : 0 < l.length → ∀ a, A = some a → ¬ D a.block) : Rd w' w'.heap.size A l := by
  by_cases h0 : 0 < l.length
  · rcases h with h | ⟨b, off, e, hlt, hv⟩
    · exact .inl h
    · exact .inr ⟨b, off, e, Nat.lt_of_lt_of_le hlt hc.size, fun j u hj => (World.cell?_of_block (hc.block b hlt (hd h0 _ e))).trans (hv j u hj)⟩
  · exact .inl (List.eq_nil_of_length_eq_zero (by omega))
theorem keys_lit {w : World} {M m n : Nat} {S : Int → Option Value} (h : OM w M m n S) : ∃ D, w.ownsMap Try.prog 3 hel M m D ∧ MF D S ∧ Maps.size D = n ∧ ∀ es, D = .map es → ∀ p ∈ es, ∃ x, p.1 = Lit.int .i64 x := by
  obtain ⟨D, hown, hF, hsz⟩ := h
  refine ⟨D, hown, hF, hsz, fun es he p hp => ?_⟩
  obtain ⟨es', he', hko⟩ := hown.keysOf
  rw [he] at he'
  obtain rfl : es = es' := by simpa using he'
  obtain ⟨v, hv⟩ := hko p hp
  obtain ⟨x, _, hx, _⟩ := Maps.keyOf_i64 Try.underlying3 hv
  exact ⟨x, hx⟩
theorem fld73 (w : World) (a b : ByteArray) (e : Bool) : (Instr.field 73 (.agg #[.string a, .string b, .bool e]) 0).run Try.prog w = .ok (.agg #[.string a, .string b]) w := by
  kernel_rfl
set_option maxRecDepth 100000 in
set_option maxHeartbeats 4000000 in
theorem all_seq (B M' m n : Nat) (S : Int → Option Cur) (xs : List XE) (hn : n ≤ 100000) (hlen : xs.length = n) (hL : Lists S xs) (hwf : ∀ x ∈ xs, (Lit.int .i64 x.1).wf = true) :
    SeqR Try.prog 41 #[.pointer (some ⟨B, 0, none⟩)] enc3 xs (fun g => g = B ∨ g = M') (fun W => Held W B M' m n S) := by
  intro l J Jx W D HHW hD hin hJ hJx hY h0
  refine (callsIn_wide (n := 3)).1 ?_
  have c1 := HHW.1.cell
  have nB : ¬ D B := fun h => hD _ h (.inl rfl)
  have nM : ¬ D M' := fun h => hD _ h (.inr rfl)
  obtain ⟨DM, hown, hF, hsz, hko⟩ := keys_lit HHW.2
  have KA := Lib.hid (keys_at (some M') W)
  have hbk := alb W (.cells #[.map (some M')] 56)
  have SA := Lib.hid (sorted_at M' m W.heap.size DM hel (W.alloc (.cells #[.map (some M')] 56)) (by simp) (Boxed.new W 56 (.map (some M'))).cell (by
    obtain ⟨es, clock, hb', Ft, hs, hD'⟩ := hown
    exact ⟨es, clock, (hbk.block _ HHW.2.lt).trans hb', Ft, hs, hD'⟩) (by omega))
  have HSORT : Hid (∀ ss : List Int, ss.Perm (intKeys DM) → ss.mergeSort (fun x y => decide (x ≤ y)) = xs.map (·.1)) := Lib.hid (fun ss h => hL.sort hF hko h)
  have HPL : Hid (∀ ss : List Int, ss.Perm (intKeys DM) → ss.length = n) := Lib.hid (fun ss h => by
    have h1 := congrArg List.length (hL.sort hF hko h)
    rw [List.length_mergeSort, List.length_map, hlen] at h1
    exact h1)
  have HHH := Lib.hid HHW
  have HLL := Lib.hid hL
  have HWF := Lib.hid hwf
  have HLN := Lib.hid hlen
  have HBK := Lib.hid hbk
  have HJ := Lib.hid hJ
  have HY := Lib.hid hY
  have H0 := Lib.hid h0
  have HI := Lib.hid hin
  have NB := Lib.hid nB
  have NM := Lib.hid nM
  clear hD hJ hY h0 hin HHW hL hwf hown hF hsz hko hbk nB nM hlen
  refine callsIn_of_wp Try.func41 rfl trivial ?_ rfl
  simp only [Try.ntmps41, List.size_toArray, List.length_cons, List.length_nil, Nat.reduceAdd, Nat.reduceSub, Array.replicate_succ, Array.replicate_zero, List.push_toArray, List.append_toArray, List.nil_append, List.cons_append]
  gi_wp2_with fail
  refine ⟨trivial, (callsIn_wide.2 KA.out).mono ?_⟩
  rintro e W1 ⟨rfl, rfl⟩
  clear KA
  gi_wp2_with fail
  refine ⟨trivial, (callsIn_wide.2 SA.out).mono ?_⟩
  rintro e W2 ⟨v, ss, rfl, hp, hrow, _, hb2⟩
  rw [HSORT.out ss hp, HPL.out ss hp] at hrow
  obtain ⟨A, cA, rfl, hrd, hlo⟩ := own_form hrow
  have hb3 : Below W.heap.size W W2 := bel_trans HBK.out hb2
  have HRD : Hid (∀ V, Chg D W2 V → Rd V V.heap.size A ((xs.map (·.1)).map encZ)) := Lib.hid (fun V hV => rd_chg hrd hV (fun h0 a ha hd => by
    have h1 := hlo (by rw [List.length_map, List.length_map, HLN.out] at h0; exact h0) a ha
    have h2 := HI.out _ hd
    simp at h1
    omega))
  have HHD : Hid (∀ V, Chg D W2 V → Held V B M' m n S) := Lib.hid (fun V hV => (HHH.out.later hb3).chg hV NB.out NM.out)
  have J2 := Lib.hid (HJ.out.bel H0.out hb3)
  have HJ2 := Lib.hid (HJ.out.more hb3.size)
  have HI2 := Lib.hid (HI.out.more hb3.size)
  have B3 := Lib.hid hb3
  clear SA HSORT HPL hp hrow hb2 hrd hlo hb3 H0 HJ HI HBK HHH NB NM c1
  gi_wp2
  gi_loopw [9] (fun iv wr => ∃ (k : Nat) (E : Nat → Prop), k ≤ n ∧ iv = .int .i64 k ∧ J k E wr ∧ Gr D E W2 wr ∧ Chg D W2 wr) (fun i _ => n - (intOf i).toNat)
  case atStart => exact ⟨0, D, Nat.zero_le _, rfl, J2.out, Gr.refl _ _ _, Chg.refl _ _⟩
  case round =>
    obtain ⟨k, E, hk, rfl, hj, hgr, hch⟩ := hrel
    have HGR := Lib.hid hgr
    have HCH := Lib.hid hch
    have HJK := Lib.hid hj
    clear hgr hch hj
    by_cases hlt : k < n
    · obtain ⟨x, hx⟩ : ∃ x, xs[k]? = some x := ⟨_, List.getElem?_eq_getElem (by rw [HLN.out]; exact hlt)⟩
      obtain ⟨b, off, rfl, hbl, g0⟩ := Rd.get (HRD.out wr HCH.out) (k := k) (u := encZ x.1) (by rw [List.getElem?_map, List.getElem?_map, hx]; rfl)
      have hk1 : (k : Int) < (n : Int) := by omega
      have hk0 : (0 : Int) ≤ (k : Int) := by omega
      have hk9 : (k : Int) ≤ 100000 := by omega
      have hd := HHD.out wr HCH.out
      have c1 := hd.1.cell
      obtain ⟨eb, hS⟩ := HLL.out.val x (List.mem_of_getElem? hx)
      have hl := hd.2.look1 x.1 (HWF.out x (List.mem_of_getElem? hx))
      rw [hS] at hl
      obtain ⟨fn, tmps, assign, body, hy, hRd⟩ := HY.out 2 k x E wr hx HJK.out (HI2.out.gr HGR.out HCH.out.size)
      have HRD3 := Lib.hid hRd
      simp only [enc3] at hy
      obtain ⟨x0, x1, x2⟩ := x
      simp only [Option.map_some, Option.getD_some, cvv] at hl
      simp only [encZ] at hy g0 hl
      have hf := fun w => fld73 w x1 x2 eb
      clear hRd hx hd hS
      gi_wp2
      refine HRD3.out.mono ?_
      rintro e W3 ⟨E2, hg2, hc2, (⟨rfl, hj⟩ | ⟨rfl, hj⟩)⟩
      · have HG := Lib.hid (gc_step HGR.out HCH.out (Below.refl _ _) hg2 hc2)
        have HJ3 := Lib.hid hj
        clear hg2 hc2 hj
        gi_wp2
        go_roundw
        case rel => exact ⟨k + 1, E2, by omega, by simp, HJ3.out, HG.out.1, HG.out.2⟩
        case measure => simp [intOf]; omega
      · have HG := Lib.hid (gc_step HGR.out HCH.out (Below.refl _ _) hg2 hc2)
        have HJ3 := Lib.hid hj
        clear hg2 hc2 hj
        gi_wp2
        refine bodyPost_ret (results_none rfl _ _ _) rfl ?_
        exact ⟨⟨_, rfl⟩, E2, gr_dn HG.out.1 B3.out.size, (Chg.of_below (D := D) B3.out).trans HG.out.2 (fun g hg => .inl hg), .inr ⟨k + 1, by rw [HLN.out]; omega, HJ3.out⟩⟩
    · have hk1 : ¬ (k : Int) < (n : Int) := by omega
      have e : k = n := by omega
      have HE := Lib.hid e
      clear e
      gi_wp2
      go_end0
      exact ⟨⟨_, rfl⟩, E, gr_dn HGR.out B3.out.size, (Chg.of_below (D := D) B3.out).trans HCH.out (fun g hg => .inl hg), .inl (by rw [HLN.out, ← HE.out]; exact HJK.out)⟩
/-- What All hands back. -/
def AllPost (w : World) (xs : List XE) (e : Ending) (W : World) : Prop := ∃ lb F R, e = .returned (.func (.func 41) #[] lb) ∧ Below w.heap.size w W ∧ SeqR Try.prog 41 lb enc3 xs F R ∧ R W ∧ (∀ W W', R W → Below W.heap.size W W' → R W') ∧ ∀ g, F g → w.heap.size ≤ g ∧ g < W.heap.size
end Go.Proofs.Ytdbcaiggliiacaa
