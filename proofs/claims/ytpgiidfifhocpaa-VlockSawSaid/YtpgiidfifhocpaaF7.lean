/- For every list of deeds and place the law VlockSaw answers true, and leaves what it was given as it was. -/
import Derived.Test.YtpgiidfifhocpaaRows
import Derived.WalkKit
import Derived.ProofKit
import Derived.OpenShut
import Derived.ShutString
import Derived.ChangeOld
import Derived.ChangeSame
import Derived.Below
import Derived.Lib.SmallJoins
import Derived.SizedLaws
import Derived.Deep.Slices
import Derived.Test.YtpgiidfifhocpaaB4
import Derived.Test.YtpgiidfifhocpaaB5
namespace Go.Proofs.Ytpgiidfifhocpaa
open Go.ChangeShapes Go.WideShapes Go.ChangeAt Go.RowKit Go.Joins
set_option linter.unusedVariables false
set_option linter.unusedSimpArgs false

theorem saw_own : ownKnob Try.prog.godebug = none := by kernel_rfl
theorem saw_laidOut : laidOutB Try.prog = true := by kernel_rfl
theorem saw_cells43 : Try.prog.cellsOf 43 = 2 := by kernel_rfl
theorem saw_cells3 : Try.prog.cellsOf 3 = 1 := by kernel_rfl

/-- An element of the list: two numbers, one behind the other. -/
theorem deed_cells {H : Type} {enc : TypeId × Value → H} {w : World} {base : Nat} {spare : Nat → Bool} {held : Bool} {n : Nat} {a : Addr} {cs : List Value} {x : DataW H × List MemPlace}
    (hc : w.cells? base a 2 = some cs) (h : DataW.trod enc Try.prog w base spare held n 43 cs = some x) :
    ∃ kd who : Int, w.cell? a = some (.int .i64 kd) ∧ w.cell? (a.add 1) = some (.int .i64 who) := by
  obtain ⟨_, hl, hi⟩ := World.cells?_some hc
  obtain ⟨y0, y1, m, _, _, h0, h1⟩ := trod_struct2 Try.underlying43 h
  match cs, hl with
  | [c0, c1], _ =>
    simp only [saw_cells3, List.drop_zero, List.take_succ_cons, List.take_zero, List.drop_succ_cons] at h0 h1
    obtain ⟨p, e0, _, _⟩ := DataW.trod_int Try.underlying3 h0
    obtain ⟨q, e1, _, _⟩ := DataW.trod_int Try.underlying3 h1
    simp at e0 e1
    subst e0 e1
    have g0 := hi 0 (by omega)
    have g1 := hi 1 (by omega)
    exact ⟨p, q, by simpa [Addr.add] using g0, by simpa using g1⟩

theorem saw_walk (a : Option Addr) (len cap : Nat) (a1 : Int) (w : World) (u1 : 0 ≤ a1) (u2 : a1 ≤ 255) (h : (a = none ∧ len = 0 ∧ cap = 0) ∨ ∃ x, a = some x ∧ len ≤ cap ∧ cap ≤ maxLen ∧ ∀ i, i < len → ∃ kd who : Int, w.cell? (x.add (i * 2)) = some (.int .i64 kd) ∧ w.cell? ((x.add (i * 2)).add 1) = some (.int .i64 who)) :
    Calls Try.prog 7 #[.slice a len cap, .int .u8 a1] w fun e w' => e = .returned (.bool true) ∧ Below w.heap.size w w' := by
  rcases h with ⟨rfl, rfl, rfl⟩ | ⟨⟨b, off, spot⟩, rfl, hl, hm, hD⟩
  · exact saw_nil a1 w u1 u2
  · by_cases h0 : len = 0
    · subst h0; exact saw_zero _ cap a1 w hm u1 u2
    · have hs : spot = none := by
        obtain ⟨p, q, h1, _⟩ := hD 0 (by omega)
        simpa [Addr.add] using World.cell?_spot h1
      subst hs
      have hD' : ∀ i, i < len → ∃ kd who : Int, w.cell? ⟨b, off + i * 2, none⟩ = some (.int .i64 kd) ∧ w.cell? ⟨b, off + i * 2 + 1, none⟩ = some (.int .i64 who) := by
        intro i hi
        obtain ⟨p, q, h1, h2⟩ := hD i hi
        refine ⟨p, q, ?_, ?_⟩
        · by_cases hz : i = 0
          · subst hz; simpa [Addr.add] using h1
          · have : ¬ i * 2 = 0 := by omega
            simpa [Addr.add, this] using h1
        · by_cases hz : i = 0
          · subst hz; simpa [Addr.add] using h2
          · have : ¬ i * 2 = 0 := by omega
            simpa [Addr.add, this] using h2
      by_cases hL : len ≤ 100
      · have p1 : 0 ≤ a1 % ((len : Int) + 1) := Int.emod_nonneg _ (by omega)
        have p2 : a1 % ((len : Int) + 1) < (len : Int) + 1 := Int.emod_lt_of_pos _ (by omega)
        exact saw_A b off len cap a1 w hl hm u1 u2 hL (a1 % ((len : Int) + 1)).toNat (by omega) (by omega) hD'
      · exact saw_B b off len cap a1 w hl hm u1 u2 (by omega) (a1 % 101).toNat (by omega) (by omega) (fun i hi => hD' i (by omega))

set_option maxRecDepth 100000 in
theorem saw_lifted (os : Os) (started : os.Started) (H : Type) (enc : TypeId × Value → H) :
    ReturnsInHanded {} Try.checked os 7 .any (Rows.vlockSawSpec.pre6 enc Try.prog Try.f7 Rows.vlockSawRow.domain false) (Rows.vlockSawSpec.post enc Try.prog Try.f7 false true false false) := by
  refine returnsInHanded_of_change_sized (C := Try.checked) saw_own started (by kernel_rfl) Try.func7
    (ChangeSpec.witness6 (enc := enc) (C := Try.checked) false ⟨#[], #[.slice none 0 0, .int .u8 0], []⟩ 8 (by kernel_rfl) (by kernel_rfl) (by kernel_rfl) (by kernel_rfl)) ?_
  intro W base args ds gs before hval0 hW hcnd hsz _
  have hval : ∀ (j : Nat) t v, Try.f7.params[j]? = some t → args[j]? = some v → Value.okWide Try.prog W .any base t v := hval0
  have hW' := hW
  obtain ⟨p, q, hA0, hV, rfl, hfz, hnd⟩ := hW
  have hA : DataW.TrodAll enc Try.prog W 0 (fun _ => true) true Try.f7.params.toList args.toList ds p := hA0
  rw [Try.params7] at hA hval
  obtain ⟨v0, vs0, d0, ds0, p0, q0, hargs, rfl, rfl, h0, r0⟩ := trodAll_cons hA
  obtain ⟨v1, vs1, d1, ds1, p1, q1, rfl, rfl, rfl, h1, r1⟩ := trodAll_cons r0
  obtain ⟨rfl, rfl, rfl⟩ := trodAll_nil r1
  obtain rfl : args = #[v0, v1] := by cases args; simp_all
  obtain ⟨rfl, rfl⟩ := trodVars_none hV
  have k0 := h0
  have lt0 : ∀ x ∈ p0, x.block < W.heap.size := by obtain ⟨m, hm⟩ := k0; exact DataW.trod_lt m _ _ _ hm
  obtain ⟨a0, len, cap, rfl⟩ := okWide_slice Try.underlying39 (hval 0 39 v0 rfl rfl)
  obtain ⟨a1, rfl, rfl, rfl, w1⟩ := open_int Try.underlying5 (hval 1 5 v1 rfl rfl) h1
  have hd : (a0 = none ∧ len = 0 ∧ cap = 0) ∨ ∃ x, a0 = some x ∧ len ≤ cap ∧ cap ≤ maxLen ∧ ∀ i, i < len → ∃ kd who : Int, W.cell? (x.add (i * 2)) = some (.int .i64 kd) ∧ W.cell? ((x.add (i * 2)).add 1) = some (.int .i64 who) := by
    obtain ⟨fuel, hf⟩ := h0
    rcases Go.Deep.open_slice Try.underlying39 hf with ⟨hcs, _⟩ | ⟨x, l, c, m, n, D, Pl, hcs, _, hl, hm, hmm, _, hx⟩
    · simp [Value.cells] at hcs
      exact .inl hcs
    · simp [Value.cells] at hcs
      obtain ⟨rfl, rfl, rfl⟩ := hcs
      refine .inr ⟨x, rfl, hl, hm, fun i hi => ?_⟩
      obtain ⟨cs', hc, ht⟩ := hx i (by rw [hmm]; split <;> omega)
      rw [saw_cells43] at hc
      exact deed_cells hc ht
  clear hA0 hval0
  refine (saw_walk a0 len cap a1 W (bounds_u8 w1).1 (bounds_u8 w1).2 hd).mono fun e W' ⟨he, bel⟩ => ?_
  subst he
  exact ⟨_, rfl, _, _, _, [], _, [], hW', trodAll_mk1 (shut_bool Try.underlying4 _), (trodAll_cons_mk (Below.trod saw_laidOut (by kernel_rfl) (of_decide_eq_true (by kernel_rfl)) k0 bel lt0) (trodAll_cons_mk (shut_int Try.underlying5 w1) trodAll_mk0)), rfl, bel.frame _, fun h => by cases h⟩

theorem saw_over : Rows.vlockSawRow.holds Try.pinned (OpenSpec.ofChange Rows.vlockSawSpec) :=
  OpenClaim.holds_of_wide 7 Try.f7 rfl rfl rfl rfl rfl rfl rfl ⟨rfl, rfl, rfl, rfl, rfl⟩ rfl rfl rfl rfl rfl (by kernel_rfl) Try.func7 (by kernel_rfl)
    (of_decide_eq_true (by kernel_rfl)) (by unfold Func.isWrapper; first | (rw [if_pos (by decide +kernel)]; kernel_rfl) | (rw [if_neg (by decide +kernel)]; exact ⟨rfl, rfl⟩))
    (fun os started H enc _ => saw_lifted os started H enc)

theorem saw_proved : Rows.VlockSawSaid := saw_over
#print axioms saw_proved
end Go.Proofs.Ytpgiidfifhocpaa
