/- The program's book: words; what only reads it. -/
import Derived.Test.YtlffigkjhhcohaaP1
namespace Go.Proofs.Ytlffigkjhhcohaa
set_option linter.unusedSimpArgs false
open Go.RowKit Go.Maps
set_option linter.unusedVariables false

theorem law3 : Keyed Try.prog 3 := int_keyed Try.underlying3
theorem zero3 (w : World) : (zeroValue 3).run Try.prog w = .ok (.int .i64 0) w := by kernel_rfl

/-- What a map holds, as a function. -/
def MF (D : DataW Unit) (S : Int → Option Int) : Prop :=
  Maps.IsMap D ∧ (∀ x, Maps.has D (.int .i64 x) = (S x).isSome) ∧ ∀ x v z, S x = some v → D.atKey (.int .i64 x) z = .lit (.int .i64 v)
def upd (S : Int → Option Int) (x v : Int) : Int → Option Int := fun y => if y = x then some v else S y
theorem ikey (x : Int) : WideAt.IsKeyLit (.int .i64 x) := trivial
theorem MF.empty : MF (.map []) (fun _ => none) := ⟨Maps.isMap_empty, fun x => rfl, fun x v z h => by cases h⟩
theorem MF.put {D : DataW Unit} {S : Int → Option Int} (h : MF D S) (x v : Int) : MF (D.put (.int .i64 x) (.lit (.int .i64 v))) (upd S x v) := by
  refine ⟨h.1.put _ _, fun y => ?_, fun y u z hy => ?_⟩
  · by_cases c : y = x
    · subst c; rw [Maps.has_put_same h.1 (ikey y)]; simp [upd]
    · rw [Maps.has_put_other (by simpa using c), h.2.1 y]; simp [upd, c]
  · by_cases c : y = x
    · subst c; simp [upd] at hy; subst hy; exact Maps.atKey_put_same h.1 (ikey y) _ _
    · rw [Maps.atKey_put_other (by simpa using c)]
      simp [upd, c] at hy
      exact h.2.2 y u z hy
theorem MF.congr {D : DataW Unit} {S T : Int → Option Int} (h : MF D S) (e : ∀ x, S x = T x) : MF D T := by
  have : S = T := funext e
  rw [← this]; exact h
theorem skI (x y : Int) : (Lit.int .i64 x).sameKey (.int .i64 y) = decide (x = y) := by simp [Lit.sameKey]
theorem MF.del {D : DataW Unit} {S : Int → Option Int} (h : MF D S) (x : Int) : MF (D.del (.int .i64 x)) (fun y => if y = x then none else S y) := by
  refine ⟨h.1.del _, fun y => ?_, fun y u z hy => ?_⟩
  · by_cases c : y = x
    · subst c; rw [Maps.has_del_same]; simp
    · rw [Maps.has_del_other (by simpa using c), h.2.1 y]; simp [c]
  · by_cases c : y = x
    · simp [c] at hy
    · rw [Maps.atKey_del_other (by simpa using c)]
      simp [c] at hy
      exact h.2.2 y u z hy

/-- The program's book at N: its map at M, its rows at A1 and A2. -/
structure PB (w : World) (lo N M : Nat) (A1 A2 : Option Addr) (k1 k2 m : Nat) (ss now : Int) (S : Int → Option Int) (wl sl : List Int) : Prop where
  hN : lo ≤ N ∧ N < w.heap.size
  hM : lo ≤ M ∧ M ≠ N
  c0 : w.cell? ⟨N, 0, none⟩ = some (.int .i64 ss)
  c1 : w.cell? ⟨N, 1, none⟩ = some (.int .i64 now)
  c2 : w.cell? ⟨N, 2, none⟩ = some (.map (some M))
  c3 : w.cell? ⟨N, 3, none⟩ = some (.slice A1 wl.length k1)
  c4 : w.cell? ⟨N, 4, none⟩ = some (.slice A2 sl.length k2)
  fz : ∀ j, w.frozen? ⟨N, j, none⟩ = false
  mp : ∃ D, w.ownsMap Try.prog 3 (plainElem Try.prog 3) M m D ∧ MF D S
  r1 : Row w lo A1 wl k1
  r2 : Row w lo A2 sl k2
  d1 : fpr A1 k1 ≠ some N ∧ fpr A1 k1 ≠ some M
  d2 : fpr A2 k2 ≠ some N ∧ fpr A2 k2 ≠ some M
  d : fpr A1 k1 = none ∨ fpr A1 k1 ≠ fpr A2 k2
theorem PB.later {w w' : World} {lo N M : Nat} {A1 A2 : Option Addr} {k1 k2 m : Nat} {ss now : Int} {S : Int → Option Int} {wl sl : List Int} (h : PB w lo N M A1 A2 k1 k2 m ss now S wl sl) (hb : Below w.heap.size w w') : PB w' lo N M A1 A2 k1 k2 m ss now S wl sl := by
  have gN : w.grownBy w' none := bel_grown hb none
  obtain ⟨D, hD, hF⟩ := h.mp
  refine ⟨⟨h.hN.1, Nat.lt_of_lt_of_le h.hN.2 hb.size⟩, h.hM, bel_later hb h.c0, bel_later hb h.c1, bel_later hb h.c2, bel_later hb h.c3, bel_later hb h.c4, fun j => ?_, ⟨D, hD.kept gN (by simp), hF⟩, h.r1.kept gN ?_, h.r2.kept gN ?_, h.d1, h.d2, h.d⟩
  · exact (hb.frozen (p := ⟨N, j, none⟩) h.hN.2).trans (h.fz j)
  · cases fpr A1 k1 <;> simp
  · cases fpr A2 k2 <;> simp

theorem now_any {w : World} {lo N M : Nat} {A1 A2 : Option Addr} {k1 k2 m : Nat} {ss now : Int} {S : Int → Option Int} {wl sl : List Int} (h : PB w lo N M A1 A2 k1 k2 m ss now S wl sl) :
    Calls Try.prog 24 #[.pointer (some ⟨N, 0, none⟩)] w fun e w' => e = .returned (.int .i64 now) ∧ Below w.heap.size w w' := by
  have c1 := h.c1
  clear h
  go_enter Try.func24, Try.ntmps24
  go_wp2
  go_ret
  exact ⟨rfl, Below.refl _ _⟩
theorem pin_any {w : World} {lo N M : Nat} {A1 A2 : Option Addr} {k1 k2 m : Nat} {ss now : Int} {S : Int → Option Int} {wl sl : List Int} (x : Int) (hx : (Lit.int .i64 x).wf = true) (h : PB w lo N M A1 A2 k1 k2 m ss now S wl sl) :
    Calls Try.prog 19 #[.pointer (some ⟨N, 0, none⟩), .int .i64 x] w fun e w' => e = .returned (.bool (S x).isSome) ∧ Below w.heap.size w w' := by
  have c2 := h.c2
  obtain ⟨D, hown, hF⟩ := h.mp
  have hhas := hF.2.1 x
  obtain ⟨r, hr⟩ : ∃ r, r = (S x).isSome := ⟨_, rfl⟩
  rw [← hr] at hhas ⊢
  have hkey := Lib.hid (keyOf_int_mk (P := Try.prog) Try.underlying3 hx)
  clear h hF hr hx
  go_enter Try.func19, Try.ntmps19
  go_wp2_with (first
    | (at_lookup; refine wpList_lookup_own_ok_int _ rfl _ _ 56 rfl 3 3 .i64 law3 Try.underlying56 Try.underlying3 (zero3 _) M _ D rfl hown _ _ rfl hkey.out ?_; intro c hat hwc; clear hat hwc)
    | fail)
  go_ret
  exact ⟨rfl, Below.refl _ _⟩
theorem waits_any {w : World} {lo N M : Nat} {A1 A2 : Option Addr} {k1 k2 m : Nat} {ss now : Int} {S : Int → Option Int} {wl sl : List Int} (h : PB w lo N M A1 A2 k1 k2 m ss now S wl sl) (hw : wl.length ≤ 1000000) :
    Calls Try.prog 21 #[.pointer (some ⟨N, 0, none⟩)] w (OwnPost w wl) := by
  have c3 := h.c3
  have O := Lib.hid (own_any A1 wl.length k1 wl w rfl hw h.r1.rd)
  clear h
  go_enter Try.func21, Try.ntmps21
  go_wp2_with fail
  refine O.out.mono ?_
  rintro e w1 ⟨A, c, rfl, hr, hb⟩
  have HR := Lib.hid hr
  have HB := Lib.hid hb
  clear hr hb
  go_wp2_with fail
  exact bodyPost_ret (v := .slice A wl.length c) (by simp [results, Try.results21, go_sem]) rfl ⟨A, c, rfl, HR.out, HB.out⟩

/-- The least of what was announced. -/
def LeastP (S : Int → Option Int) (now g : Int) : Prop := ∀ G, G ≤ g ↔ (G ≤ now ∧ ∀ x v, S x = some v → G ≤ v)
def L3 (S : Int → Option Int) (now : Int) (left : Lit → Bool) (g : Int) : Prop := ∀ G, G ≤ g ↔ (G ≤ now ∧ ∀ x v, S x = some v → left (.int .i64 x) = false → G ≤ v)
theorem L3_start {S : Int → Option Int} {now : Int} {D : DataW Unit} (h : MF D S) : L3 S now (Maps.has D) now := by
  intro G
  refine ⟨fun hg => ⟨hg, fun x v hv hl => ?_⟩, fun hg => hg.1⟩
  rw [h.2.1 x, hv] at hl; cases hl
theorem L3_step {S : Int → Option Int} {now : Int} {D : DataW Unit} {left : Lit → Bool} {g x c : Int} (h : MF D S) (hg : L3 S now left g) (hat : ∀ zd, D.atKey (.int .i64 x) zd = .lit (.int .i64 c)) :
    L3 S now (fun z => left z && !z.sameKey (.int .i64 x)) (min g c) := by
  have hh := Maps.has_true_of_atKey hat
  rw [h.2.1 x] at hh
  obtain ⟨v, hv⟩ := Option.isSome_iff_exists.1 hh
  have e1 := h.2.2 x v (.lit (.int .i64 0)) hv
  rw [hat] at e1
  have hc : c = v := by injection e1 with e1; injection e1
  intro G
  have h4 := hg G
  constructor
  · intro hm
    have h5 := h4.1 (by omega)
    refine ⟨h5.1, fun y u hu hl => ?_⟩
    dsimp only at hl
    rw [skI] at hl
    by_cases e : y = x
    · subst e; rw [hv] at hu; cases hu; omega
    · simp [e] at hl; exact h5.2 y u hu hl
  · rintro ⟨h5, h6⟩
    have h7 := h4.2 ⟨h5, fun y u hu hl => h6 y u hu (by dsimp only; rw [hl]; rfl)⟩
    have h8 := h6 x v hv (by dsimp only; rw [skI]; simp)
    omega
theorem L3_end {S : Int → Option Int} {now : Int} {left : Lit → Bool} {g : Int} (hg : L3 S now left g) (hl : ∀ kl, left kl = false) : LeastP S now g := by
  intro G
  rw [hg G]
  exact ⟨fun h => ⟨h.1, fun x v hv => h.2 x v hv (hl _)⟩, fun h => ⟨h.1, fun x v hv _ => h.2 x v hv⟩⟩
theorem ite_min (a b : Int) : (if b < a then b else a) = min a b := by split <;> omega
set_option maxHeartbeats 1000000 in
theorem pleast_any {w : World} {lo N M : Nat} {A1 A2 : Option Addr} {k1 k2 m : Nat} {ss now : Int} {S : Int → Option Int} {wl sl : List Int} (g : Int) (hg : LeastP S now g) (h : PB w lo N M A1 A2 k1 k2 m ss now S wl sl) :
    Calls Try.prog 23 #[.pointer (some ⟨N, 0, none⟩)] w fun e w' => e = .returned (.int .i64 g) ∧ Below w.heap.size w w' := by
  have c1 := h.c1
  have c2 := h.c2
  obtain ⟨D, hown, hF⟩ := h.mp
  have HF := Lib.hid hF
  have HG := Lib.hid hg
  clear h hF hg
  go_enter Try.func23, Try.ntmps23
  go_wp2_with (first
    | (at_range; refine wpList_range_own _ rfl _ 56 rfl 3 3 law3 Try.underlying56 _ M _ D rfl hown ?_; intro w0 hrg0 hg0 hs0)
    | fail)
  try go_frame
  have hb0 : Below w.heap.size w w0 := (Below.refl _ _).grown hg0 (Nat.le_refl _) (fun j hj => by cases hj)
  go_loopw [3] (fun gv ww => ∃ (left : Lit → Bool) (cnt : Nat) (g3 : Int), gv = .int .i64 g3 ∧ L3 S now left g3 ∧ ww.ranges Try.prog 3 (plainElem Try.prog 3) M w.heap.size m D left cnt ∧ Below w.heap.size w ww) (fun _ ww => ww.rangeLeft M w.heap.size)
  case atStart => exact ⟨_, _, _, rfl, L3_start HF.out, hrg0, hb0⟩
  case round =>
    clear hown hrg0 hb0
    obtain ⟨left, cnt, g3, rfl, hG, hrg, hbw⟩ := hrel
    have HG3 := Lib.hid hG
    have HBW := Lib.hid hbw
    clear hG hbw
    go_wp2_with (first
      | (at_next; refine wpList_next_ranges_ii _ rfl _ rfl 3 3 .i64 .i64 law3 Try.underlying3 Try.underlying3 M w.heap.size _ _ _ _ rfl hrg ?_ ?_)
      | fail)
    · intro _ hl0
      have hend : Hid (g = g3) := Lib.hid (by
        have h1 := L3_end HG3.out hl0
        have a := (h1 g).2 ((HG.out g).1 (Int.le_refl _))
        have b := (HG.out g3).2 ((h1 g3).1 (Int.le_refl _))
        omega)
      clear hl0
      go_wp2
      go_ret
      exact ⟨ret_eq hend.out, HBW.out⟩
    · intro x c w1 cnt1 hwx hwc hlx hat hrg1 hlt hg1 hs1 hen
      have HST := Lib.hid (L3_step HF.out HG3.out hat)
      have HLT := Lib.hid hlt
      have hb1 := Lib.hid (HBW.out.grown hg1 HBW.out.size (fun j hj => by cases hj; exact Nat.le_refl _))
      clear hat hlx hlt hs1 hg1
      go_wp2
      refine ⟨⟨_, cnt1, min g3 c, ?_, HST.out, hrg1, hb1.out⟩, by rw [hrg1.left_eq, hrg.left_eq]; exact HLT.out⟩
      rw [← ite_min]
end Go.Proofs.Ytlffigkjhhcohaa
