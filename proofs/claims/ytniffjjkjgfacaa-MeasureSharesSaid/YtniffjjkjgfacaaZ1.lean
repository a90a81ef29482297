/- Sound, All of the one tree; the iterator over its spots. -/
import Derived.Test.YtniffjjkjgfacaaY9
namespace Go.Proofs.Ytniffjjkjgfacaa
set_option linter.unusedSimpArgs false
open Go.RowKit Go.Maps Go.Shelf
set_option linter.unusedVariables false
attribute [local go_sem] Oper.semAt_some
set_option maxRecDepth 10000 in
set_option maxHeartbeats 1000000 in
theorem sound1 (b kb : Nat) (w : World) (hT : TreeAt w b kb) : Calls Try.prog 38 #[TV b] w fun e w' => e = .returned (.bool true) ∧ Below w.heap.size w w' := by
  have HT : Hid (TreeAt (w.alloc (.cells #[TS b] 46)) b kb) := Lib.hid (hT.later (alb w _))
  clear hT
  go_enter Try.func38, Try.ntmps38
  go_wp2_with (first
    | (go_at_call 45; ((with_reducible refine (survey1 b kb _ HT.out).mono ?_); rintro e w1 ⟨A, c, rfl, hr, b1⟩; have B1H := Lib.hid (bel_a b1); clear hr b1))
    | fail)
  go_ret
  exact ⟨rfl, B1H.out⟩
def sps : List SP := [sp1, sp2]
def AllPost (w : World) (e : Ending) (w' : World) : Prop := ∃ B A c, e = .returned (.func (.func 46) #[] #[.pointer (some ⟨B, 0, none⟩)]) ∧ w.heap.size ≤ B ∧ Boxed w' B 83 (.slice A 2 c) ∧ ES.Row w' w.heap.size A sps c ∧ Below w.heap.size w w'
set_option maxRecDepth 10000 in
set_option maxHeartbeats 1000000 in
theorem all1 (b kb : Nat) (w : World) (hT : TreeAt w b kb) : Calls Try.prog 39 #[TV b] w (AllPost w) := by
  have HT : Hid (TreeAt (w.alloc (.cells #[TS b] 46)) b kb) := Lib.hid (hT.later (alb w _))
  clear hT
  go_enter Try.func39, Try.ntmps39
  go_wp2_with (first
    | (go_at_call 45; ((with_reducible refine (survey1 b kb _ HT.out).mono ?_); rintro e w1 ⟨A, c, rfl, hr, b1⟩; have B1H := Lib.hid (bel_a b1); have HR := Lib.hid hr; clear hr b1))
    | fail)
  go_ret
  exact ⟨_, A, c, rfl, B1H.out.size, Boxed.new w1 83 _, (HR.out.later (alb w1 _)).base (by simp), bel_alloc B1H.out _⟩
theorem es_chg {w w' : World} {A : Option Addr} {xs : List SP} {D : Nat → Prop} (h : ES.Rd w A xs) (hc : Chg D w w') (hd : 0 < xs.length → ∀ a, A = some a → ¬ D a.block) : ES.Rd w' A xs := by
  by_cases h0 : 0 < xs.length
  · rcases h with h | ⟨b, off, e, hlt, hv⟩
    · exact .inl h
    · exact .inr ⟨b, off, e, Nat.lt_of_lt_of_le hlt hc.size, fun j u hj => (World.cell?_of_block (hc.block b hlt (hd h0 _ e))).trans (hv j u hj)⟩
  · have : xs = [] := List.eq_nil_of_length_eq_zero (by omega)
    subst this
    exact .inl rfl
def encS (x : SP) : Array Value := #[.int .i64 x.i, .agg #[.string x.f, .string x.t]]
def FS (B : Nat) (A : Option Addr) (xs : List SP) (g : Nat) : Prop := g = B ∨ (0 < xs.length ∧ ∃ a, A = some a ∧ a.block = g)
def RS (B : Nat) (A : Option Addr) (n c : Nat) (xs : List SP) (W : World) : Prop := Boxed W B 83 (.slice A n c) ∧ ES.Rd W A xs
abbrev SO (x : SP) : Obj := .cells #[.int .i64 x.i, .string x.f, .string x.t, .int .i64 x.p, .int .i64 x.a] 90 (0, 0)
set_option maxRecDepth 100000 in
set_option maxHeartbeats 4000000 in
theorem spots_seq (B : Nat) (A : Option Addr) (n c : Nat) (xs : List SP) (hlen : xs.length = n) (hn : n ≤ 100000) :
    SeqR Try.prog 46 #[.pointer (some ⟨B, 0, none⟩)] encS xs (FS B A xs) (RS B A n c xs) := by
  intro l J Jx W D HHW hD hin hJ hJx hY h0
  refine (callsIn_wide (n := 3)).1 ?_
  have c1 := HHW.1.cell
  have HRD : Hid (∀ V, Chg D W V → ES.Rd V A xs) := Lib.hid (fun V hV => es_chg HHW.2 hV (fun h0 a ha hd => hD _ hd (.inr ⟨h0, a, ha, rfl⟩)))
  have HLN := Lib.hid hlen
  have HY := Lib.hid hY
  have J2 := Lib.hid h0
  have HI := Lib.hid hin
  have HJL := Lib.hid hJ
  clear hD hJ hY h0 hin HHW hlen
  refine callsIn_of_wp Try.func46 rfl trivial ?_ rfl
  simp only [Try.ntmps46, List.size_toArray, List.length_cons, List.length_nil, Nat.reduceAdd, Nat.reduceSub, Array.replicate_succ, Array.replicate_zero, List.push_toArray, List.append_toArray, List.nil_append, List.cons_append]
  gi_wp2
  gi_loopw [7] (fun iv wr => ∃ (k : Nat) (E : Nat → Prop), k ≤ n ∧ iv = .int .i64 k ∧ J k E wr ∧ Gr D E W wr ∧ Chg D W wr) (fun i _ => n - (intOf i).toNat)
  case atStart => exact ⟨0, D, Nat.zero_le _, rfl, J2.out, Gr.refl _ _ _, Chg.refl _ _⟩
  case round =>
    obtain ⟨k, E, hk, rfl, hj, hgr, hch⟩ := hrel
    have HGR := Lib.hid hgr
    have HCH := Lib.hid hch
    have HJK := Lib.hid hj
    clear hgr hch hj
    by_cases hlt : k < n
    · obtain ⟨x, hx⟩ : ∃ x, xs[k]? = some x := ⟨_, List.getElem?_eq_getElem (by rw [HLN.out]; exact hlt)⟩
      obtain ⟨b, off, rfl, hbl, g0, g1, g2, g3, g4⟩ := es_at (HRD.out wr HCH.out) hx
      have hk1 : (k : Int) < (n : Int) := by omega
      have hk0 : (0 : Int) ≤ (k : Int) := by omega
      have hk9 : (k : Int) ≤ 100000 := by omega
      have B2H := Lib.hid (alb wr (SO x))
      obtain ⟨x0, x1, x2, x3, x4⟩ := cells5 (heap_alloc_new wr (SO x))
      obtain ⟨fn, tmps, assign, body, hy, hRd⟩ := HY.out 2 k x E (wr.alloc (SO x)) hx (HJL.out.bel HJK.out B2H.out) ((HI.out.gr HGR.out HCH.out.size).more B2H.out.size)
      have HRD3 := Lib.hid hRd
      simp only [encS] at hy
      clear hRd hx
      gi_wp2
      refine HRD3.out.mono ?_
      rintro e W3 ⟨E2, hg2, hc2, (⟨rfl, hj⟩ | ⟨rfl, hj⟩)⟩
      · have HG := Lib.hid (gc_step HGR.out HCH.out B2H.out hg2 hc2)
        have HJ3 := Lib.hid hj
        clear hg2 hc2 hj
        gi_wp2
        go_roundw
        case rel => exact ⟨k + 1, E2, by omega, by simp, HJ3.out, HG.out.1, HG.out.2⟩
        case measure => simp [intOf]; omega
      · have HG := Lib.hid (gc_step HGR.out HCH.out B2H.out hg2 hc2)
        have HJ3 := Lib.hid hj
        clear hg2 hc2 hj
        gi_wp2
        refine bodyPost_ret (results_none rfl _ _ _) rfl ?_
        exact ⟨⟨_, rfl⟩, E2, HG.out.1, HG.out.2, .inr ⟨k + 1, by rw [HLN.out]; omega, HJ3.out⟩⟩
    · have hk1 : ¬ (k : Int) < (n : Int) := by omega
      have e : k = n := by omega
      have HE := Lib.hid e
      clear e
      gi_wp2
      go_end0
      exact ⟨⟨_, rfl⟩, E, HGR.out, HCH.out, .inl (by rw [HLN.out, ← HE.out]; exact HJK.out)⟩
end Go.Proofs.Ytniffjjkjgfacaa
