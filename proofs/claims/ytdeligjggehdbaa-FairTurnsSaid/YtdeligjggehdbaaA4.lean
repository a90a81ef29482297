/- The program's least window. -/
import Derived.Test.YtdeligjggehdbaaA1
import Derived.Maps.OwnSet
import Derived.Maps.Views
import Derived.Maps.RangeWalk
namespace Go.Proofs.Ytdeligjggehdbaa
set_option linter.unusedSimpArgs false
open Go.RowKit Go.Maps
set_option linter.unusedVariables false

theorem law3 : Keyed Try.prog 3 := int_keyed Try.underlying3
theorem zero3 (w : World) : (zeroValue 3).run Try.prog w = .ok (.int .i64 0) w := by kernel_rfl

/-- What a map holds, as a function. -/
def MF (D : DataW Unit) (S : Int → Option Int) : Prop :=
  Maps.IsMap D ∧ (∀ x, Maps.has D (.int .i64 x) = (S x).isSome) ∧ ∀ x v z, S x = some v → D.atKey (.int .i64 x) z = .lit (.int .i64 v)
def upd (S : Int → Option Int) (x v : Int) : Int → Option Int := fun y => if y = x then some v else S y
theorem ikey (x : Int) : WideAt.IsKeyLit (.int .i64 x) := trivial
theorem MF.empty : MF (.map []) (fun _ => none) := ⟨Maps.isMap_empty, fun x => rfl, fun x v z h => by cases h⟩
theorem MF.put {D : DataW Unit} {S : Int → Option Int} (h : MF D S) (x v : Int) : MF (D.put (.int .i64 x) (.lit (.int .i64 v))) (upd S x v) := by
  refine ⟨h.1.put _ _, fun y => ?_, fun y u z hy => ?_⟩
  · by_cases c : y = x
    · subst c; rw [Maps.has_put_same h.1 (ikey y)]; simp [upd]
    · rw [Maps.has_put_other (by simpa using c), h.2.1 y]; simp [upd, c]
  · by_cases c : y = x
    · subst c; simp [upd] at hy; subst hy; exact Maps.atKey_put_same h.1 (ikey y) _ _
    · rw [Maps.atKey_put_other (by simpa using c)]
      simp [upd, c] at hy
      exact h.2.2 y u z hy
theorem MF.congr {D : DataW Unit} {S T : Int → Option Int} (h : MF D S) (e : ∀ x, S x = T x) : MF D T := by
  have : S = T := funext e
  rw [← this]; exact h
/-- Behind k sessions. -/
def S1 (q : List Int) (k : Nat) : Int → Option Int := fun x => if x ∈ q.take k then some (-1) else none
/-- Behind i picks. -/
def S2 (p q : List Int) (i : Nat) : Int → Option Int := fun x => if x ∈ q then some (lastF p x i) else none
theorem S1_step (q : List Int) (k : Nat) (hk : k < q.length) (x : Int) : upd (S1 q k) (q.getD k 0) (-1) x = S1 q (k + 1) x := by
  unfold upd S1
  rw [take_step hk]
  simp only [List.mem_append, List.mem_singleton]
  by_cases c : x = q.getD k 0
  · rw [if_pos c, if_pos (.inr c)]
  · rw [if_neg c]
    by_cases d : x ∈ q.take k
    · rw [if_pos d, if_pos (.inl d)]
    · rw [if_neg d, if_neg (fun h => h.elim d c)]
theorem S1_end (p q : List Int) (x : Int) : S1 q q.length x = S2 p q 0 x := by
  unfold S1 S2; rw [List.take_length]; rfl
theorem ite_max (a b : Int) : (if a < b then b else a) = max a b := by split <;> omega
theorem last_succ (p : List Int) (x : Int) (i : Nat) : lastF p x (i + 1) = if p.getD i 0 = x then (i : Int) else lastF p x i := rfl
theorem S2_yes (p q : List Int) (i : Nat) (h : p.getD i 0 ∈ q) (x : Int) : upd (S2 p q i) (p.getD i 0) i x = S2 p q (i + 1) x := by
  unfold upd S2
  rw [last_succ]
  by_cases c : x = p.getD i 0
  · rw [if_pos c, if_pos (by rw [c]; exact h), if_pos c.symm]
  · rw [if_neg c, if_neg (c := p.getD i 0 = x) (fun e => c e.symm)]
theorem S2_no (p q : List Int) (i : Nat) (h : p.getD i 0 ∉ q) (x : Int) : S2 p q i x = S2 p q (i + 1) x := by
  unfold S2
  rw [last_succ]
  by_cases c : x ∈ q
  · rw [if_pos c, if_pos c, if_neg (fun e => h (by rw [e]; exact c))]
  · rw [if_neg c, if_neg c]
/-- What has been seen of the last loop. -/
def G3 (p q : List Int) (left : Lit → Bool) (g : Int) : Prop := 1 ≤ g ∧ g ≤ p.length + 1 ∧ ∀ G, g ≤ G ↔ (g2F p q p.length ≤ G ∧ ∀ x ∈ q, left (.int .i64 x) = false → (p.length : Int) - lastF p x p.length ≤ G)
theorem skI (x y : Int) : (Lit.int .i64 x).sameKey (.int .i64 y) = decide (x = y) := by simp [Lit.sameKey]
theorem G3_start (p q : List Int) {D : DataW Unit} (h : MF D (S2 p q p.length)) : G3 p q (Maps.has D) (g2F p q p.length) := by
  refine ⟨g2_lo _ _ _, g2_hi _ _ _, fun G => ⟨fun hg => ⟨hg, fun x hx hl => ?_⟩, fun hg => hg.1⟩⟩
  rw [h.2.1 x] at hl
  simp [S2, hx] at hl
theorem G3_step (p q : List Int) {D : DataW Unit} {left : Lit → Bool} {g x c : Int} (h : MF D (S2 p q p.length)) (hg : G3 p q left g) (hat : ∀ zd, D.atKey (.int .i64 x) zd = .lit (.int .i64 c)) :
    (-1 ≤ c ∧ c < p.length) ∧ G3 p q (fun z => left z && !z.sameKey (.int .i64 x)) (max g (p.length - c)) := by
  have hh := Maps.has_true_of_atKey hat
  rw [h.2.1 x] at hh
  have hx : x ∈ q := by
    by_cases c : x ∈ q
    · exact c
    · simp [S2, c] at hh
  have e1 := h.2.2 x (lastF p x p.length) (.lit (.int .i64 0)) (by simp [S2, hx])
  rw [hat] at e1
  have hc : c = lastF p x p.length := by injection e1 with e1; injection e1
  have l0 := last_lo p x p.length
  have l1 := last_hi p x p.length
  refine ⟨by omega, ?_⟩
  obtain ⟨h1, h2, h3⟩ := hg
  refine ⟨by omega, by omega, fun G => ?_⟩
  have h4 := h3 G
  constructor
  · intro hm
    have h5 := h4.1 (by omega)
    refine ⟨h5.1, fun y hy hl => ?_⟩
    dsimp only at hl
    rw [skI] at hl
    by_cases e : y = x
    · subst e; omega
    · simp [e] at hl; exact h5.2 y hy hl
  · rintro ⟨h5, h6⟩
    have h7 := h4.2 ⟨h5, fun y hy hl => h6 y hy (by dsimp only; rw [hl]; rfl)⟩
    have h8 := h6 x hx (by dsimp only; rw [skI]; simp)
    omega
theorem G3_end (p q : List Int) {left : Lit → Bool} {g : Int} (hg : G3 p q left g) (hl : ∀ kl, left kl = false) : g = gF p q := by
  refine eq_of_char fun G => ?_
  rw [hg.2.2 G, gF_char0]
  exact ⟨fun h => ⟨h.1, fun x hx => h.2 x hx (hl _)⟩, fun h => ⟨h.1, fun x hx _ => h.2 x hx⟩⟩

set_option maxRecDepth 100000 in
set_option maxHeartbeats 2000000 in
theorem gap_any (A1 A2 : Option Addr) (n1 c1 n2 c2 : Nat) (p q : List Int) (w : World) (hp : p.length = n1) (hq : q.length = n2) (h1 : n1 ≤ 1000000) (h2 : n2 ≤ 1000000) (hA : RdI w A1 p) (hB : RdI w A2 q)
    (wp : ∀ x ∈ p, (Lit.int .i64 x).wf = true) (wq : ∀ x ∈ q, (Lit.int .i64 x).wf = true) :
    Calls Try.prog 6 #[.slice A1 n1 c1, .slice A2 n2 c2] w fun e w' => e = .returned (.int .i64 (gF p q)) ∧ Below w.heap.size w w' := by
  have HP := Lib.hid hp
  have HQ := Lib.hid hq
  have HA := Lib.hid hA
  have HB := Lib.hid hB
  have WP := Lib.hid wp
  have WQ := Lib.hid wq
  clear hp hq hA hB wp wq
  obtain ⟨r, hr⟩ : ∃ r, r = gF p q := ⟨_, rfl⟩
  rw [← hr]
  have HR := Lib.hid hr
  clear hr
  have hmm := @run_makeMap Try.prog
  have hown0 := Lib.hid (World.ownsMap_made (H := Unit) w Try.prog 3 (plainElem Try.prog 3))
  have hW0 := Lib.hid ((Below.refl w.heap.size w).alloc (Nat.le_refl _) (.map #[] 0))
  go_enter Try.func6, Try.ntmps6
  go_wp2
  go_loopw [18] (fun iv wr => ∃ (k : Nat) (D : DataW Unit), k ≤ n2 ∧ iv = .int .i64 k ∧ wr.ownsMap Try.prog 3 (plainElem Try.prog 3) w.heap.size k D ∧ MF D (S1 q k) ∧ Below w.heap.size w wr) (fun i _ => n2 - (intOf i).toNat)
  case atStart => exact ⟨0, _, by omega, rfl, hown0.out, MF.empty.congr (fun x => by simp [S1]), hW0.out⟩
  case round =>
    obtain ⟨k, D, hk, rfl, hown, hmf, hbw⟩ := hrel
    have HMF := Lib.hid hmf
    have HBW := Lib.hid hbw
    clear hmf hbw
    by_cases h8 : k = n2
    · have hkn : ¬ (k : Int) < (n2 : Int) := by omega
      have HMF2 : Hid (MF D (S2 p q 0)) := Lib.hid (HMF.out.congr (fun x => by rw [h8, ← HQ.out]; exact S1_end p q x))
      clear HMF
      have HB1 : Hid (w.heap.size < wr.heap.size) := Lib.hid (by have := HBW.out.size; obtain ⟨es, ck, hb, _⟩ := hown; exact (Array.getElem?_eq_some_iff.1 hb).1)
      go_wp2
      go_loopw [8, 27] (fun gv iv wv => ∃ (i : Nat) (D : DataW Unit), i ≤ n1 ∧ iv = .int .i64 i ∧ gv = .int .i64 (g2F p q i) ∧ wv.ownsMap Try.prog 3 (plainElem Try.prog 3) w.heap.size (k + i) D ∧ MF D (S2 p q i) ∧ Below w.heap.size w wv) (fun _ i _ => n1 - (intOf i).toNat)
      case atStart => exact ⟨0, D, by omega, rfl, rfl, hown, HMF2.out, HBW.out⟩
      case round =>
        clear hown HMF2 HBW HB1
        obtain ⟨i, E, hi, rfl, rfl, hown, hmf, hbw⟩ := hrel
        have HMF := Lib.hid hmf
        have HBW := Lib.hid hbw
        clear hmf hbw
        have g0 := g2_lo p q i
        have g1 := g2_hi p q i
        by_cases h9 : i = n1
        · obtain ⟨wo, rfl⟩ : ∃ wo : World, wo = wr := ⟨_, rfl⟩
          have hin : ¬ (i : Int) < (n1 : Int) := by omega
          have hown2 : wo.ownsMap Try.prog 3 (plainElem Try.prog 3) w.heap.size 2000000 E := hown.mono (by omega)
          clear hown
          have HPI : Hid (i = p.length) := Lib.hid (by rw [HP.out]; exact h9)
          have HMF2 : Hid (MF E (S2 p q p.length)) := Lib.hid (by rw [← HPI.out]; exact HMF.out)
          have HG : Hid (G3 p q (Maps.has E) (g2F p q i)) := Lib.hid (by rw [HPI.out]; exact G3_start p q HMF2.out)
          clear HMF
          obtain ⟨gg, hgg⟩ : ∃ gg, gg = g2F p q i := ⟨_, rfl⟩
          rw [← hgg] at HG g0 g1
          rw [← hgg]
          clear hgg
          go_wp2_with (first
            | (at_range; refine wpList_range_own _ rfl _ 31 rfl 3 3 law3 Try.underlying31 _ w.heap.size _ E rfl hown2 ?_; intro w0 hrg0 hg0 hs0)
            | go_in)
          try go_frame
          have hb0 := HBW.out.grown (hg0.but (some w.heap.size)) HBW.out.size (fun j hj => by cases hj; exact Nat.le_refl _)
          go_loopw [8] (fun gv ww => ∃ (left : Lit → Bool) (cnt : Nat) (g3 : Int), gv = .int .i64 g3 ∧ G3 p q left g3 ∧ ww.ranges Try.prog 3 (plainElem Try.prog 3) w.heap.size wo.heap.size 2000000 E left cnt ∧ Below w.heap.size w ww) (fun _ ww => ww.rangeLeft w.heap.size wo.heap.size)
          case atStart => exact ⟨_, _, _, rfl, HG.out, hrg0, hb0⟩
          case round =>
            clear hown2 hrg0 hb0 HG
            obtain ⟨left, cnt, g3, rfl, hG, hrg, hbw⟩ := hrel
            have HG := Lib.hid hG
            have HBW2 := Lib.hid hbw
            clear hG hbw
            go_wp2_with (first
              | (at_next; refine wpList_next_ranges_ii _ rfl _ rfl 3 3 .i64 .i64 law3 Try.underlying3 Try.underlying3 w.heap.size wo.heap.size _ _ _ _ rfl hrg ?_ ?_)
              | go_in)
            · intro _ hl0
              have hend : Hid (r = g3) := Lib.hid (by rw [HR.out, G3_end p q HG.out hl0])
              clear hl0
              go_wp2
              go_ret
              exact ⟨ret_eq hend.out, HBW2.out⟩
            · intro x c w1 cnt1 hwx hwc hlx hat hrg1 hlt hg1 hs1 hen
              have hst := G3_step p q HMF2.out HG.out hat
              have hc0 := hst.1.1
              have hc1 := hst.1.2
              rw [HP.out] at hc1
              have HST := Lib.hid hst.2
              have h3 := HG.out.1
              have h4 := HG.out.2.1
              rw [HP.out] at h4
              have HLT := Lib.hid hlt
              have hb1 := Lib.hid (HBW2.out.grown hg1 HBW2.out.size (fun j hj => by cases hj; exact HBW.out.size))
              clear hst hat hlx hlt hs1 hg1
              go_wp2
              refine ⟨⟨_, cnt1, max g3 (p.length - c), ?_, HST.out, hrg1, hb1.out⟩, by rw [hrg1.left_eq, hrg.left_eq]; exact HLT.out⟩
              rw [HP.out, ← ite_max]
        · have hin : i < n1 := by omega
          have hi1 : (i : Int) < (n1 : Int) := by omega
          have hi0 : (0 : Int) ≤ (i : Int) := by omega
          have hil : i < p.length := by rw [HP.out]; exact hin
          obtain ⟨b, off, rfl, hlt, g⟩ := rdi_get (HA.out.later HBW.out) hil
          have hst1 := S2_yes p q i
          have hst2 := S2_no p q i
          have hg2 : g2F p q (i + 1) = if p.getD i 0 ∈ q then max (g2F p q i) (i - lastF p (p.getD i 0) i) else g2F p q i := rfl
          have hwf := WP.out _ (getD_mem hil)
          obtain ⟨x, hx⟩ : ∃ x, x = p.getD i 0 := ⟨_, rfl⟩
          rw [← hx] at g hst1 hst2 hg2 hwf
          have l0 := last_lo p x i
          have l1 := last_hi p x i
          have HST1 := Lib.hid hst1
          have HST2 := Lib.hid hst2
          have HG2 := Lib.hid hg2
          have hkey := Lib.hid (keyOf_int_mk (P := Try.prog) Try.underlying3 hwf)
          clear hst1 hst2 hg2 hx hwf
          by_cases hq : x ∈ q
          · have hhas : Maps.has E (.int .i64 x) = true := by rw [HMF.out.2.1 x]; simp [S2, hq]
            have HAT : Hid (E.atKey (.int .i64 x) (.lit (.int .i64 0)) = .lit (.int .i64 (lastF p x i))) := Lib.hid (HMF.out.2.2 x _ _ (by simp [S2, hq]))
            have HM : Hid (g2F p q (i + 1) = max (g2F p q i) (i - lastF p x i)) := Lib.hid (by rw [HG2.out, if_pos hq])
            clear HG2
            go_wp2_with (first
              | (at_lookup; refine wpList_lookup_own_ok_int _ rfl _ _ 31 rfl 3 3 .i64 law3 Try.underlying31 Try.underlying3 (zero3 _) w.heap.size _ E rfl hown _ _ rfl hkey.out ?_; intro c hat hwc; obtain rfl : c = lastF p x i := (by rw [HAT.out] at hat; injection hat with e1; injection e1 with _ e2; exact e2.symm); clear hat hwc)
              | (at_mapUpdate; refine wpList_mapUpdate_own _ rfl _ _ _ 31 rfl 3 3 law3 Try.underlying31 _ w.heap.size _ E rfl hown (by unfold maxLen; omega) _ _ _ rfl rfl hkey.out _ [] (plainElem_int Try.underlying3 (WalkArith.wf_i64 (by omega))) ?_; intro w1 hown1 hgrow1)
              | go_in)
            exact ⟨⟨i + 1, _, by omega, by simp, by rw [HM.out, ite_max], hown1, (HMF.out.put x i).congr (HST1.out hq), HBW.out.grown hgrow1 HBW.out.size (fun j hj => by cases hj; exact Nat.le_refl _)⟩, by simp [intOf]; omega⟩
          · have hhas : Maps.has E (.int .i64 x) = false := by rw [HMF.out.2.1 x]; simp [S2, hq]
            have HM : Hid (g2F p q (i + 1) = g2F p q i) := Lib.hid (by rw [HG2.out, if_neg hq])
            clear HG2
            go_wp2_with (first
              | (at_lookup; refine wpList_lookup_own_ok_int _ rfl _ _ 31 rfl 3 3 .i64 law3 Try.underlying31 Try.underlying3 (zero3 _) w.heap.size _ E rfl hown _ _ rfl hkey.out ?_; intro c hat hwc; clear hat hwc)
              | go_in)
            exact ⟨⟨i + 1, E, by omega, by simp, by rw [HM.out], hown.mono (by omega), HMF.out.congr (HST2.out hq), HBW.out⟩, by simp [intOf]; omega⟩
    · have hkn : k < n2 := by omega
      have hk1 : (k : Int) < (n2 : Int) := by omega
      have hk0 : (0 : Int) ≤ (k : Int) := by omega
      have hkl : k < q.length := by rw [HQ.out]; exact hkn
      obtain ⟨b, off, rfl, hlt, g⟩ := rdi_get (HB.out.later HBW.out) hkl
      have hst := S1_step q k hkl
      have hwf := WQ.out _ (getD_mem hkl)
      obtain ⟨x, hx⟩ : ∃ x, x = q.getD k 0 := ⟨_, rfl⟩
      rw [← hx] at g hst hwf
      have HST := Lib.hid hst
      have hkey := Lib.hid (keyOf_int_mk (P := Try.prog) Try.underlying3 hwf)
      clear hst hx hwf
      go_wp2_with (first
        | (at_mapUpdate; refine wpList_mapUpdate_own _ rfl _ _ _ 31 rfl 3 3 law3 Try.underlying31 _ w.heap.size k D rfl hown (by unfold maxLen; omega) _ _ _ rfl rfl hkey.out _ [] (plainElem_int Try.underlying3 (by decide)) ?_; intro w1 hown1 hgrow1)
        | go_in)
      exact ⟨⟨k + 1, _, by omega, by simp, hown1, (HMF.out.put x (-1)).congr HST.out, HBW.out.grown hgrow1 HBW.out.size (fun j hj => by cases hj; exact Nat.le_refl _)⟩, by simp [intOf]; omega⟩
end Go.Proofs.Ytdeligjggehdbaa
