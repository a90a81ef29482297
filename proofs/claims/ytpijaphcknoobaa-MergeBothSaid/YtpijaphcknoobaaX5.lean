/- Of: a row of things from a slice. -/
import Derived.Test.YtpijaphcknoobaaX4
namespace Go.Proofs.Ytpijaphcknoobaa
set_option linter.unusedSimpArgs false
open Go.RowKit Go.Shelf
set_option linter.unusedVariables false
attribute [local go_sem] Oper.semAt_some

theorem gc_step {D D' D2 : Nat → Prop} {W wr V W3 : World} (hgr : Gr D D' W wr) (hch : Chg D W wr) (hb : Below wr.heap.size wr V) (hg2 : Gr D' D2 V W3) (hc2 : Chg D' V W3) : Gr D D2 W W3 ∧ Chg D W W3 :=
  ⟨(gr_up hgr hb.size).trans hg2 (Nat.le_trans hch.size hb.size) hc2.size, (hch.trans (Chg.of_below (D := fun _ => False) hb) (fun g h => h.elim)).trans hc2 (fun g hg => (hgr g hg).elim .inl (fun x => .inr x.1))⟩
set_option maxRecDepth 100000 in
set_option maxHeartbeats 4000000 in
theorem of_seq (bx : Nat) (A : Option Addr) (c : Nat) (xs : List TT) (hn : xs.length ≤ 100000) (w0 : World) (hbx : Boxed w0 bx 26 (.slice A xs.length c)) (hR : RdT w0 A xs) : SeqF Try.prog 41 #[.pointer (some ⟨bx, 0, none⟩)] enc xs w0 := by
  intro l J Jx W D hb hD hin hJ hJx hY h0
  refine (callsIn_wide (n := 3)).1 ?_
  have c1 := (boxed_later hbx hb).cell
  have HR : Hid (∀ V, Chg D W V → RdT V A xs) := Lib.hid (fun V hV => Rd.later hR (hb.trans (hV.below hD hb.size)))
  have HJ := Lib.hid hJ
  have HY := Lib.hid hY
  have H0 := Lib.hid h0
  have HI := Lib.hid hin
  clear hbx hR hb hD hJ hY h0 hin
  refine callsIn_of_wp Try.func41 rfl trivial ?_ rfl
  simp only [Try.ntmps41, List.size_toArray, List.length_cons, List.length_nil, Nat.reduceAdd, Nat.reduceSub, Array.replicate_succ, Array.replicate_zero, List.push_toArray, List.append_toArray, List.nil_append, List.cons_append]
  gi_wp2
  gi_loopw [7] (fun iv wr => ∃ (k : Nat) (E : Nat → Prop), k ≤ xs.length ∧ iv = .int .i64 k ∧ J k E wr ∧ Gr D E W wr ∧ Chg D W wr) (fun i _ => xs.length - (intOf i).toNat)
  case atStart => exact ⟨0, D, Nat.zero_le _, rfl, H0.out, Gr.refl _ _ _, Chg.refl _ _⟩
  case round =>
    obtain ⟨k, E, hk, rfl, hj, hgr, hch⟩ := hrel
    have HGR := Lib.hid hgr
    have HCH := Lib.hid hch
    have HJK := Lib.hid hj
    clear hgr hch hj
    by_cases hlt : k < xs.length
    · obtain ⟨x, hx⟩ : ∃ x, xs[k]? = some x := ⟨_, List.getElem?_eq_getElem hlt⟩
      obtain ⟨b, off, rfl, hbl, g0, g1⟩ := rdt_get (HR.out wr HCH.out) hx
      have hk1 : (k : Int) < (xs.length : Int) := by omega
      have hk0 : (0 : Int) ≤ (k : Int) := by omega
      have hk9 : (k : Int) ≤ 100000 := by omega
      have hV : Below wr.heap.size wr (wr.alloc (.cells #[.int .i64 x.1, .int .i64 x.2] 29)) := bel_alloc (Below.refl _ _) _
      obtain ⟨fn, tmps, assign, body, hy, hRd⟩ := HY.out 2 k x E (wr.alloc (.cells #[.int .i64 x.1, .int .i64 x.2] 29)) hx (HJ.out.bel HJK.out hV) ((HI.out.gr HGR.out HCH.out.size).more hV.size)
      have HRD := Lib.hid hRd
      have HV := Lib.hid hV
      simp only [enc] at hy
      clear hRd hV hx
      gi_wp2
      refine HRD.out.mono ?_
      rintro e W3 ⟨E2, hg2, hc2, (⟨rfl, hj⟩ | ⟨rfl, hj⟩)⟩
      · have HG := Lib.hid (gc_step HGR.out HCH.out HV.out hg2 hc2)
        have HJ3 := Lib.hid hj
        clear hg2 hc2 hj
        gi_wp2
        go_roundw
        case rel => exact ⟨k + 1, E2, by omega, by simp, HJ3.out, HG.out.1, HG.out.2⟩
        case measure => simp [intOf]; omega
      · have HG := Lib.hid (gc_step HGR.out HCH.out HV.out hg2 hc2)
        have HJ3 := Lib.hid hj
        clear hg2 hc2 hj
        gi_wp2
        refine bodyPost_ret (results_none rfl _ _ _) rfl ?_
        exact ⟨⟨_, rfl⟩, E2, HG.out.1, HG.out.2, .inr ⟨k + 1, by omega, HJ3.out⟩⟩
    · have hk1 : ¬ (k : Int) < (xs.length : Int) := by omega
      have e : k = xs.length := by omega
      have HE := Lib.hid e
      clear e
      gi_wp2
      go_end0
      exact ⟨⟨_, rfl⟩, E, HGR.out, HCH.out, .inl (by rw [← HE.out]; exact HJK.out)⟩
/-- A row from a slice: what comes back. -/
def SeqBack (P : Program) (g : FuncId) (w : World) (xs : List TT) (e : Ending) (W : World) : Prop := ∃ lb, e = .returned (.func (.func g) #[] lb) ∧ Below w.heap.size w W ∧ SeqF P g lb enc xs W
theorem of_any (A : Option Addr) (c n : Nat) (xs : List TT) (hl : xs.length = n) (hn : xs.length ≤ 100000) (w : World) (hR : RdT w A xs) : Calls Try.prog 21 #[.slice A n c] w (SeqBack Try.prog 41 w xs) := by
  subst hl
  have hb : Below w.heap.size w (w.alloc (.cells #[.slice A xs.length c] 26)) := bel_alloc (Below.refl _ _) _
  have S := Lib.hid (of_seq w.heap.size A c xs hn (w.alloc (.cells #[.slice A xs.length c] 26)) (Boxed.new _ _ _) (Rd.later hR hb))
  have HB := Lib.hid hb
  clear hb hR
  go_enter Try.func21, Try.ntmps21
  go_wp2
  exact bodyPost_ret (v := .func (.func 41) #[] #[.pointer (some ⟨w.heap.size, 0, none⟩)]) (by simp [results, Try.results21, go_sem]) rfl ⟨_, rfl, HB.out, S.out⟩
end Go.Proofs.Ytpijaphcknoobaa
