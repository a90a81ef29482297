/- The iterator over a slice's numbers. -/
import Derived.Test.YtniffjjkjgfacaaX2
namespace Go.Proofs.Ytniffjjkjgfacaa
set_option linter.unusedSimpArgs false
open Go.RowKit Go.Maps Go.Shelf
set_option linter.unusedVariables false
attribute [local go_sem] Oper.semAt_some
def EI : RE Int where
  st := 26
  et := 3
  k := 1
  by_ := 8
  z := .int .i64 0
  cs := fun x => [.int .i64 x]
  kpos := by omega
  len := fun _ => rfl
  one := fun x u hu => by simp at hu; subst hu; rfl
  und := Try.underlying26
  info := by kernel_rfl
  zk := rfl
  bmax := by omega
theorem ei_at {w : World} {A : Option Addr} {xs : List Int} (h : EI.Rd w A xs) {i : Nat} {x : Int} (hi : xs[i]? = some x) : ∃ b off, A = some ⟨b, off, none⟩ ∧ b < w.heap.size ∧ w.cell? ⟨b, off + i, none⟩ = some (.int .i64 x) := by
  obtain ⟨b, off, e, h1, h2⟩ := h.get hi
  exact ⟨b, off, e, h1, by simpa [EI] using h2 0 _ rfl⟩
theorem boxed_later {w w' : World} {N : Nat} {t : TypeId} {v : Value} (h : Boxed w N t v) (hb : Below w.heap.size w w') : Boxed w' N t v := (hb.block N h.lt).trans h
theorem boxed_chg {w w' : World} {N : Nat} {t : TypeId} {v : Value} {D : Nat → Prop} (h : Boxed w N t v) (hb : Chg D w w') (hn : ¬ D N) : Boxed w' N t v := (hb.block N h.lt hn).trans h
theorem gr_up {D D' : Nat → Prop} {a b c : World} (h : Gr D D' a b) (hs : b.heap.size ≤ c.heap.size) : Gr D D' a c := fun g hg => (h g hg).elim .inl (fun x => .inr ⟨x.1, Nat.lt_of_lt_of_le x.2 hs⟩)
theorem gr_dn {D D' : Nat → Prop} {a b c : World} (h : Gr D D' b c) (hs : a.heap.size ≤ b.heap.size) : Gr D D' a c := fun g hg => (h g hg).elim .inl (fun x => .inr ⟨Nat.le_trans hs x.1, x.2⟩)
theorem gc_step {D D' D2 : Nat → Prop} {W wr V W3 : World} (hgr : Gr D D' W wr) (hch : Chg D W wr) (hb : Below wr.heap.size wr V) (hg2 : Gr D' D2 V W3) (hc2 : Chg D' V W3) : Gr D D2 W W3 ∧ Chg D W W3 :=
  ⟨(gr_up hgr hb.size).trans hg2 (Nat.le_trans hch.size hb.size) hc2.size, (hch.trans (Chg.of_below (D := fun _ => False) hb) (fun g h => h.elim)).trans hc2 (fun g hg => (hgr g hg).elim .inl (fun x => .inr x.1))⟩
theorem ei_chg {w w' : World} {A : Option Addr} {xs : List Int} {D : Nat → Prop} (h : EI.Rd w A xs) (hc : Chg D w w') (hd : 0 < xs.length → ∀ a, A = some a → ¬ D a.block) : EI.Rd w' A xs := by
  by_cases h0 : 0 < xs.length
  · rcases h with h | ⟨b, off, e, hlt, hv⟩
    · exact .inl h
    · exact .inr ⟨b, off, e, Nat.lt_of_lt_of_le hlt hc.size, fun j u hj => (World.cell?_of_block (hc.block b hlt (hd h0 _ e))).trans (hv j u hj)⟩
  · have : xs = [] := List.eq_nil_of_length_eq_zero (by omega)
    subst this
    exact .inl rfl
def enc1 (x : Int) : Array Value := #[.int .i64 x]
/-- What the iterator reads. -/
def FV (B : Nat) (A : Option Addr) (xs : List Int) (g : Nat) : Prop := g = B ∨ (0 < xs.length ∧ ∃ a, A = some a ∧ a.block = g)
def RV (B : Nat) (A : Option Addr) (n c : Nat) (xs : List Int) (W : World) : Prop := Boxed W B 26 (.slice A n c) ∧ EI.Rd W A xs
set_option maxRecDepth 100000 in
set_option maxHeartbeats 4000000 in
theorem values_seq (B : Nat) (A : Option Addr) (n c : Nat) (xs : List Int) (hlen : xs.length = n) (hn : n ≤ 100000) :
    SeqR Try.prog 31 #[.pointer (some ⟨B, 0, none⟩)] enc1 xs (FV B A xs) (RV B A n c xs) := by
  intro l J Jx W D HHW hD hin hJ hJx hY h0
  refine (callsIn_wide (n := 3)).1 ?_
  have c1 := HHW.1.cell
  have HRD : Hid (∀ V, Chg D W V → EI.Rd V A xs) := Lib.hid (fun V hV => ei_chg HHW.2 hV (fun h0 a ha hd => hD _ hd (.inr ⟨h0, a, ha, rfl⟩)))
  have HLN := Lib.hid hlen
  have HY := Lib.hid hY
  have J2 := Lib.hid h0
  have HI := Lib.hid hin
  clear hD hJ hY h0 hin HHW hlen
  refine callsIn_of_wp Try.func31 rfl trivial ?_ rfl
  simp only [Try.ntmps31, List.size_toArray, List.length_cons, List.length_nil, Nat.reduceAdd, Nat.reduceSub, Array.replicate_succ, Array.replicate_zero, List.push_toArray, List.append_toArray, List.nil_append, List.cons_append]
  gi_wp2
  gi_loopw [7] (fun iv wr => ∃ (k : Nat) (E : Nat → Prop), k ≤ n ∧ iv = .int .i64 k ∧ J k E wr ∧ Gr D E W wr ∧ Chg D W wr) (fun i _ => n - (intOf i).toNat)
  case atStart => exact ⟨0, D, Nat.zero_le _, rfl, J2.out, Gr.refl _ _ _, Chg.refl _ _⟩
  case round =>
    obtain ⟨k, E, hk, rfl, hj, hgr, hch⟩ := hrel
    have HGR := Lib.hid hgr
    have HCH := Lib.hid hch
    have HJK := Lib.hid hj
    clear hgr hch hj
    by_cases hlt : k < n
    · obtain ⟨x, hx⟩ : ∃ x, xs[k]? = some x := ⟨_, List.getElem?_eq_getElem (by rw [HLN.out]; exact hlt)⟩
      obtain ⟨b, off, rfl, hbl, g0⟩ := ei_at (HRD.out wr HCH.out) hx
      have hk1 : (k : Int) < (n : Int) := by omega
      have hk0 : (0 : Int) ≤ (k : Int) := by omega
      have hk9 : (k : Int) ≤ 100000 := by omega
      obtain ⟨fn, tmps, assign, body, hy, hRd⟩ := HY.out 2 k x E wr hx HJK.out (HI.out.gr HGR.out HCH.out.size)
      have HRD3 := Lib.hid hRd
      simp only [enc1] at hy
      clear hRd hx
      gi_wp2
      refine HRD3.out.mono ?_
      rintro e W3 ⟨E2, hg2, hc2, (⟨rfl, hj⟩ | ⟨rfl, hj⟩)⟩
      · have HG := Lib.hid (gc_step HGR.out HCH.out (Below.refl _ _) hg2 hc2)
        have HJ3 := Lib.hid hj
        clear hg2 hc2 hj
        gi_wp2
        go_roundw
        case rel => exact ⟨k + 1, E2, by omega, by simp, HJ3.out, HG.out.1, HG.out.2⟩
        case measure => simp [intOf]; omega
      · have HG := Lib.hid (gc_step HGR.out HCH.out (Below.refl _ _) hg2 hc2)
        have HJ3 := Lib.hid hj
        clear hg2 hc2 hj
        gi_wp2
        refine bodyPost_ret (results_none rfl _ _ _) rfl ?_
        exact ⟨⟨_, rfl⟩, E2, HG.out.1, HG.out.2, .inr ⟨k + 1, by rw [HLN.out]; omega, HJ3.out⟩⟩
    · have hk1 : ¬ (k : Int) < (n : Int) := by omega
      have e : k = n := by omega
      have HE := Lib.hid e
      clear e
      gi_wp2
      go_end0
      exact ⟨⟨_, rfl⟩, E, HGR.out, HCH.out, .inl (by rw [HLN.out, ← HE.out]; exact HJK.out)⟩
end Go.Proofs.Ytniffjjkjgfacaa
