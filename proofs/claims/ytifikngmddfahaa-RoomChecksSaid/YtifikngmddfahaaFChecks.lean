/- RoomChecks, for every config and operation, without condition: the sizes that may be and the operations that may be asked, or why not, are those of the document. -/
import Derived.Test.YtifikngmddfahaaRows
import Derived.WalkKit
import Derived.ProofKit
import Derived.OpenShut
import Derived.ShutString
import Derived.ChangeOld
import Derived.Below
import Derived.Lib.SmallJoins
import Derived.SizedLaws
import Derived.SliceStrings
import Derived.Test.YtifikngmddfahaaD5
import Derived.Test.YtifikngmddfahaaC4
namespace Go.Proofs.Ytifikngmddfahaa
open Go.ChangeShapes Go.WideShapes Go.ChangeAt Go.RowKit Go.Joins
open Go.ChangeMaps (open_string shut_string)
set_option linter.unusedVariables false
set_option linter.unusedSimpArgs false

theorem checks_own : ownKnob Try.prog.godebug = none := by kernel_rfl
theorem checks_laidOut : laidOutB Try.prog = true := by kernel_rfl

theorem checks_ints {k : IntKind} {l : List Value} (h : ∀ i, i < l.length → ∃ z, l[i]? = some (.int k z) ∧ (Lit.int k z).wf = true) : ∃ zs : List Int, l = zs.map (Value.int k) ∧ ∀ z ∈ zs, (Lit.int k z).wf = true := by
  induction l with
  | nil => exact ⟨[], rfl, by simp⟩
  | cons x l ih =>
    obtain ⟨z, hz, wz⟩ := h 0 (by simp)
    obtain ⟨zs, e, w⟩ := ih (fun i hi => by simpa using h (i + 1) (by simpa using hi))
    simp at hz
    subst hz
    exact ⟨z :: zs, by simp [e], by simpa using ⟨wz, w⟩⟩

/-- An array of ints, by value: its cells. -/
theorem checks_vec {H : Type} {enc : TypeId × Value → H} {P : Program} {w : World} {base : Nat} {spare : Nat → Bool} {held : Bool} {r : Reach} {b0 : Nat} {t e : TypeId} {n : Nat} {k : IntKind} {v : Value} {d : DataW H} {p : List MemPlace}
    (ht : P.underlying t = some (.array n e)) (he : P.underlying e = some (.int k)) (hc : P.cellsOf e = 1) (hC : P.cellsOf t = n)
    (hv : Value.okWide P w r b0 t v) (h : DataW.Trod enc P w base spare held t v d p) :
    ∃ zs : List Int, zs.length = n ∧ v = .agg (zs.map (Value.int k)).toArray ∧ ∀ z ∈ zs, (Lit.int k z).wf = true := by
  obtain ⟨cs, rfl, hsz⟩ : ∃ cs, v = .agg cs ∧ cs.size = P.cellsOf t := by
    cases v <;> simp_all [Value.okWide]
  obtain ⟨fuel, hf⟩ := h
  obtain ⟨xs, m, _, _, hl, hxl, hel⟩ := DataW.trod_array ht hf
  have hl' : cs.toList.length = n := by simpa [hC] using hsz
  obtain ⟨zs, e1, w1⟩ := checks_ints (k := k) (l := cs.toList) (fun i hi => by
    have hE := hel i (by omega)
    rw [hc, Nat.mul_one, List.getElem?_eq_getElem (by omega)] at hE
    obtain ⟨z, e1, _, e3⟩ := DataW.trod_int he hE
    refine ⟨z, ?_, e3⟩
    have h0 : ((cs.toList.drop i).take 1)[0]? = some (.int k z) := by
      have : ((Value.agg cs).cells.toList.drop i).take 1 = (cs.toList.drop i).take 1 := by simp [Value.cells]
      rw [← this, e1]; rfl
    simpa using h0)
  refine ⟨zs, by rw [← hl', e1]; simp, ?_, w1⟩
  rw [← e1]

/-- A struct of ints, by value: its cells. -/
theorem checks_rec {H : Type} {enc : TypeId × Value → H} {P : Program} {w : World} {base : Nat} {spare : Nat → Bool} {held : Bool} {r : Reach} {b0 : Nat} {t e : TypeId} {fs : Array Field} {n : Nat} {k : IntKind} {v : Value} {d : DataW H} {p : List MemPlace}
    (ht : P.underlying t = some (.struct fs)) (he : P.underlying e = some (.int k)) (hone : Go.Deep.oneCellFields P fs = true) (hT : fs.toList.all (fun f => f.type == e) = true) (hn : fs.size = n) (hC : P.cellsOf t = n)
    (hv : Value.okWide P w r b0 t v) (h : DataW.Trod enc P w base spare held t v d p) :
    ∃ zs : List Int, zs.length = n ∧ v = .agg (zs.map (Value.int k)).toArray ∧ ∀ z ∈ zs, (Lit.int k z).wf = true := by
  obtain ⟨cs, rfl, hsz⟩ := okWide_struct ht hv
  obtain ⟨fuel, hf⟩ := h
  obtain ⟨xs, m, _, _, hl, hxl, hel⟩ := DataW.trod_struct ht hf
  have hl' : cs.toList.length = n := by simpa [hC] using hsz
  obtain ⟨zs, e1, w1⟩ := checks_ints (k := k) (l := cs.toList) (fun i hi => by
    have hif : i < fs.size := by omega
    have hg : fs[i]? = some fs[i] := Array.getElem?_eq_getElem hif
    obtain ⟨o1, o2⟩ := Go.Deep.hone_of hone i _ hg
    have hE := hel i _ hg
    have ht' : fs[i].type = e := by
      have := List.all_eq_true.1 hT fs[i] (by simp)
      simpa using this
    rw [o1, o2, ht', List.getElem?_eq_getElem (by omega)] at hE
    obtain ⟨z, e1, _, e3⟩ := DataW.trod_int he hE
    refine ⟨z, ?_, e3⟩
    have h0 : ((cs.toList.drop i).take 1)[0]? = some (.int k z) := by
      have : ((Value.agg cs).cells.toList.drop i).take 1 = (cs.toList.drop i).take 1 := by simp [Value.cells]
      rw [← this, e1]; rfl
    simpa using h0)
  refine ⟨zs, by rw [← hl', e1]; simp, ?_, w1⟩
  rw [← e1]

theorem checks_list4 (l : List Int) (h : l.length = 4) : ∃ a b c d, l = [a, b, c, d] := by
  match l, h with
  | [a, b, c, d], _ => exact ⟨a, b, c, d, rfl⟩
theorem checks_list9 (l : List Int) (h : l.length = 9) : ∃ a b c d e f g i j, l = [a, b, c, d, e, f, g, i, j] := by
  match l, h with
  | [a, b, c, d, e, f, g, i, j], _ => exact ⟨a, b, c, d, e, f, g, i, j, rfl⟩

set_option maxRecDepth 100000 in
theorem checks_lifted (os : Os) (started : os.Started) (H : Type) (enc : TypeId × Value → H) :
    ReturnsInHanded {} Try.checked os 3 .any (Rows.roomChecksSpec.pre6 enc Try.prog Try.f3 Rows.roomChecksRow.domain false) (Rows.roomChecksSpec.post enc Try.prog Try.f3 false true false false) := by
  refine returnsInHanded_of_change_sized (C := Try.checked) checks_own started (by kernel_rfl) Try.func3
    (ChangeSpec.witness6 (enc := enc) (C := Try.checked) false ⟨#[], #[.agg #[.int .i64 0, .int .i64 0, .int .i64 0, .int .i64 0, .int .i64 0, .int .i64 0, .int .i64 0, .int .i64 0, .int .i64 0], .agg #[.int .u8 0, .string ByteArray.empty, .string ByteArray.empty, .int .i64 0, .slice none 0 0]], []⟩ 8 (by kernel_rfl) (by kernel_rfl) (by kernel_rfl) (by kernel_rfl)) ?_
  intro W base args ds gs before hval0 hW hcnd hsz _
  have hval : ∀ (j : Nat) t v, Try.f3.params[j]? = some t → args[j]? = some v → Value.okWide Try.prog W .any base t v := hval0
  have hW' := hW
  obtain ⟨p, q, hA0, hV, rfl, hfz, hnd⟩ := hW
  have hA : DataW.TrodAll enc Try.prog W 0 (fun _ => true) true Try.f3.params.toList args.toList ds p := hA0
  rw [Try.params3] at hA hval
  obtain ⟨v0, vs0, d0, ds0, p0, q0, hargs, rfl, rfl, h0, r0⟩ := trodAll_cons hA
  obtain ⟨v1, vs1, d1, ds1, p1, q1, rfl, rfl, rfl, h1, r1⟩ := trodAll_cons r0
  obtain ⟨rfl, rfl, rfl⟩ := trodAll_nil r1
  obtain rfl : args = #[v0, v1] := by cases args; simp_all
  obtain ⟨rfl, rfl⟩ := trodVars_none hV
  have k0 := h0
  have lt0 : ∀ x ∈ p0, x.block < W.heap.size := by obtain ⟨m, hm⟩ := k0; exact DataW.trod_lt m _ _ _ hm
  have k1 := h1
  have lt1 : ∀ x ∈ p1, x.block < W.heap.size := by obtain ⟨m, hm⟩ := k1; exact DataW.trod_lt m _ _ _ hm
  obtain ⟨z0, zl0, e0, w0⟩ := checks_rec (k := .i64) (n := 9) Try.underlying23 Try.underlying3 (by kernel_rfl) (by kernel_rfl) (by kernel_rfl) (by kernel_rfl) (hval 0 23 v0 rfl rfl) h0
  obtain ⟨a0a, a0b, a0c, a0d, a0e, a0f, a0g, a0h, a0i, rfl⟩ := checks_list9 z0 zl0
  subst e0
  obtain ⟨a1k, a1n, a1e, a1t, a1B, a1l, a1c, a1m, e1, hl1, hm1⟩ := op_open (hval 1 27 v1 rfl rfl) h1
  subst e1
  clear hA0 hval0
  refine (checks_any a1k a1n a0a a0b a0c a0d a0e a0f a0g a0h a0i a1e a1t a1B a1l a1c a1m W hl1 hm1).mono fun e W' ⟨he, bel⟩ => ?_
  subst he
  exact ⟨_, rfl, _, _, _, [], _, [], hW', trodAll_mk1 (shut_bool Try.underlying4 _), (trodAll_cons_mk (Below.trod checks_laidOut (by kernel_rfl) (of_decide_eq_true (by kernel_rfl)) k0 bel lt0) (trodAll_cons_mk (Below.trod checks_laidOut (by kernel_rfl) (of_decide_eq_true (by kernel_rfl)) k1 bel lt1) trodAll_mk0)), rfl, bel.frame _, fun h => by cases h⟩

theorem checks_over : Rows.roomChecksRow.holds Try.pinned (OpenSpec.ofChange Rows.roomChecksSpec) :=
  OpenClaim.holds_of_wide 3 Try.f3 rfl rfl rfl rfl rfl rfl rfl ⟨rfl, rfl, rfl, rfl, rfl⟩ rfl rfl rfl rfl rfl (by kernel_rfl) Try.func3 (by kernel_rfl)
    (of_decide_eq_true (by kernel_rfl)) (by unfold Func.isWrapper; first | (rw [if_pos (by decide +kernel)]; kernel_rfl) | (rw [if_neg (by decide +kernel)]; exact ⟨rfl, rfl⟩))
    (fun os started H enc _ => checks_lifted os started H enc)

theorem checks_proved : Rows.RoomChecksSaid := checks_over
#print axioms checks_proved
end Go.Proofs.Ytifikngmddfahaa

