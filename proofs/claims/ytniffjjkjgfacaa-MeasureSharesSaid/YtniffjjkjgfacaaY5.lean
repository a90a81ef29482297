/- Pivots that are none: the iterator. -/
import Derived.Test.YtniffjjkjgfacaaY4
namespace Go.Proofs.Ytniffjjkjgfacaa
set_option linter.unusedSimpArgs false
open Go.RowKit Go.Maps Go.Shelf
set_option linter.unusedVariables false
attribute [local go_sem] Oper.semAt_some
theorem cells2 {W : World} {g : Nat} {a b : Value} {t : TypeId} (z : W.heap[g]? = some (.cells #[a, b] t (0, 0))) : W.cell? ⟨g, 0, none⟩ = some a ∧ W.cell? ⟨g, 1, none⟩ = some b := by
  constructor <;> simp [World.cell?, z]
def encP (_ : Unit) : Array Value := #[.int .i64 0, RG0]
def FP (B1 B2 B3 : Nat) (g : Nat) : Prop := g = B1 ∨ g = B2 ∨ g = B3
set_option maxRecDepth 100000 in
set_option maxHeartbeats 4000000 in
theorem all0_seq (B1 B2 B3 : Nat) : SeqR Try.prog 74 #[.pointer (some ⟨B1, 0, none⟩), .pointer (some ⟨B2, 0, none⟩), .pointer (some ⟨B3, 0, none⟩)] encP [()] (FP B1 B2 B3) (fun W => PB W B1 B2 B3 1) := by
  intro l J Jx W D HHW hD hin hJ hJx hY h0
  refine (callsIn_wide (n := 3)).1 ?_
  have c1 := HHW.b1.cell
  have HRD : Hid (∀ V, Chg D W V → PB V B1 B2 B3 1) := Lib.hid (fun V hV => HHW.chg hV (fun h => hD _ h (.inl rfl)) (fun h => hD _ h (.inr (.inl rfl))) (fun h => hD _ h (.inr (.inr rfl))))
  have HY := Lib.hid hY
  have J2 := Lib.hid h0
  have HI := Lib.hid hin
  have HJL := Lib.hid hJ
  clear hD hJ hY h0 hin HHW
  refine callsIn_of_wp Try.func74 rfl trivial ?_ rfl
  simp only [Try.ntmps74, List.size_toArray, List.length_cons, List.length_nil, Nat.reduceAdd, Nat.reduceSub, Array.replicate_succ, Array.replicate_zero, List.push_toArray, List.append_toArray, List.nil_append, List.cons_append]
  gi_wp2
  gi_loopw [7] (fun iv wr => ∃ (k : Nat) (E : Nat → Prop), k ≤ 1 ∧ iv = .int .i64 k ∧ J k E wr ∧ Gr D E W wr ∧ Chg D W wr) (fun i _ => 1 - (intOf i).toNat)
  case atStart => exact ⟨0, D, Nat.zero_le _, rfl, J2.out, Gr.refl _ _ _, Chg.refl _ _⟩
  case round =>
    obtain ⟨k, E, hk, rfl, hj, hgr, hch⟩ := hrel
    have HGR := Lib.hid hgr
    have HCH := Lib.hid hch
    have HJK := Lib.hid hj
    clear hgr hch hj
    by_cases hlt : k < 1
    · obtain rfl : k = 0 := by omega
      have c2 := (HRD.out wr HCH.out).b2.cell
      obtain ⟨c3, c4⟩ := cells2 (HRD.out wr HCH.out).b3
      gi_wp2_with (first
        | (refine ⟨trivial, ?_⟩; gi_at_call 75; refine (callsIn_wide.2 (part0 _)).mono ?_; rintro e w2 ⟨rfl, b2⟩; have B2H := Lib.hid b2; clear b2; obtain ⟨fn, tmps, assign, body, hy, hRd⟩ := HY.out 2 0 () E w2 rfl (HJL.out.bel HJK.out B2H.out) ((HI.out.gr HGR.out HCH.out.size).more B2H.out.size); have HRD3 := Lib.hid hRd; simp only [encP] at hy; clear hRd)
        | fail)
      refine HRD3.out.mono ?_
      rintro e W3 ⟨E2, hg2, hc2, (⟨rfl, hj⟩ | ⟨rfl, hj⟩)⟩
      · have HG := Lib.hid (gc_step HGR.out HCH.out B2H.out hg2 hc2)
        have HJ3 := Lib.hid hj
        clear hg2 hc2 hj
        gi_wp2
        go_roundw
        case rel => exact ⟨1, E2, by omega, by simp, HJ3.out, HG.out.1, HG.out.2⟩
        case measure => simp [intOf]
      · have HG := Lib.hid (gc_step HGR.out HCH.out B2H.out hg2 hc2)
        have HJ3 := Lib.hid hj
        clear hg2 hc2 hj
        gi_wp2
        refine bodyPost_ret (results_none rfl _ _ _) rfl ?_
        exact ⟨⟨_, rfl⟩, E2, HG.out.1, HG.out.2, .inr ⟨1, by simp, HJ3.out⟩⟩
    · have hk1 : ¬ (k : Int) < 1 := by omega
      have e : k = 1 := by omega
      have HE := Lib.hid e
      clear e
      gi_wp2
      go_end0
      exact ⟨⟨_, rfl⟩, E, HGR.out, HCH.out, .inl (by rw [← HE.out]; exact HJK.out)⟩
end Go.Proofs.Ytniffjjkjgfacaa
